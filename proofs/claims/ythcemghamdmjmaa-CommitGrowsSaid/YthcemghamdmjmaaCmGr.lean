/-
  CommitGrows walked.
-/
import Derived.Test.YthcemghamdmjmaaCgB
import Derived.Test.YthcemghamdmjmaaCgH
import Derived.Test.YthcemghamdmjmaaCgE
import Derived.Test.YthcemghamdmjmaaPkL
namespace Go.Proofs.Ythcemghamdmjmaa
namespace CmGr
open Go.RowKit
open BlkM WirM WirS CmA CmP CmB CmJ CmL CmU CmG
open CmI (NewB TL slopL slopH slC slB sa2 src_1 ownt_new OwnT.rw')
open WirX (Thg Bag)
open WirAA (box bag_box bag_set)
open WirAB (sCx)

/-- A list that comes in, by what its cells hold. -/
structure SIn (w : World) (f : Nat → Value) (a : Option Addr) (n : Nat) : Prop where
  cell : 0 < n → ∃ B o, a = some ⟨B, o, none⟩ ∧ B < w.heap.size ∧ ∀ i, i < n → w.cell? ⟨B, o + i, none⟩ = some (f i)
theorem SIn.at' {w U : World} {f : Nat → Value} {a : Option Addr} {n : Nat} (h : SIn w f a n) (hb : Below w.heap.size w U) {i : Nat} (hi : i < n) : ∃ B o, a = some ⟨B, o, none⟩ ∧ U.cell? ⟨B, o + i, none⟩ = some (f i) := by
  obtain ⟨B, o, e, hB, hc⟩ := h.cell (by omega)
  exact ⟨B, o, e, (hb.cell (p := ⟨B, _, none⟩) hB).trans (hc i hi)⟩
theorem field_ccl {a : Operand → Value} {ob : Oper} {x : Operand} (ht : Int) (h : List Int) (ra : Option Addr) (rn rc : Nat) (hl : h.length = 32) (ho : ob.op = .field TC x 2) (hx : a x = .agg (ccl ht h (.slice ra rn rc)).toArray) (W : World) :
    (execOp a ob).run Try.prog W = .ok (.value (.slice ra rn rc)) W := by
  obtain ⟨x0, x1, x2, x3, x4, x5, x6, x7, x8, x9, x10, x11, x12, x13, x14, x15, x16, x17, x18, x19, x20, x21, x22, x23, x24, x25, x26, x27, x28, x29, x30, x31, rfl⟩ := list32 h hl
  unfold execOp
  rw [ho]
  simp only [hx]
  kernel_rfl
theorem build_ch {a : Operand → Value} {ob : Oper} {x y : Operand} (ht : Int) (h : List Int) (hl : h.length = 32) (ho : ob.op = .build TC #[(0, x), (1, y)]) (hx : a x = .int .i64 ht) (hy : a y = .agg (b8 h).toArray) (W : World) :
    (execOp a ob).run Try.prog W = .ok (.value (.agg (ccl ht h (.slice none 0 0)).toArray)) W := by
  obtain ⟨x0, x1, x2, x3, x4, x5, x6, x7, x8, x9, x10, x11, x12, x13, x14, x15, x16, x17, x18, x19, x20, x21, x22, x23, x24, x25, x26, x27, x28, x29, x30, x31, rfl⟩ := list32 h hl
  unfold execOp
  rw [ho]
  simp only [List.map_toArray, List.map_cons, List.map_nil, hx, hy]
  kernel_rfl
theorem ix2 (B ln lc k : Nat) (hk : k < ln) (W : World) : (Instr.indexAt 92 (.slice (some ⟨B, 0, none⟩) ln lc) (.int .i64 (k : Int))).run Try.prog W = .ok (.pointer (some ⟨B, k * 2, none⟩)) W := by
  simp [Instr.indexAt, run_underlying Try.underlying92, asIntOf, go_sem]
  intro h
  omega
theorem op2 (a : Operand → Value) (ob : Oper) (x y : Operand) (B ln lc k : Nat) (ho : ob.op = Op.indexAddr 92 x y) (hx : a x = .slice (some ⟨B, 0, none⟩) ln lc) (hy : a y = .int .i64 (k : Int)) (hk : k < ln) (W : World) :
    (execOp a ob).run Try.prog W = .ok (.value (.pointer (some ⟨B, k * 2, none⟩))) W := by
  unfold execOp
  rw [ho]
  simp only [hx, hy]
  simp [ix2 B ln lc k hk W]
theorem ixb (B o ln lc k : Nat) (hk : k < ln) (W : World) : (Instr.indexAt 117 (.slice (some ⟨B, o, none⟩) ln lc) (.int .i64 (k : Int))).run Try.prog W = .ok (.pointer (some ⟨B, o + k, none⟩)) W := by
  have hs : (sizeOf (Try.prog.elem 117)).run Try.prog W = .ok 1 W := by kernel_rfl
  simp [Instr.indexAt, run_underlying Try.underlying117, asIntOf, go_sem]
  intro h
  omega
theorem opb (a : Operand → Value) (ob : Oper) (x y : Operand) (B o ln lc k : Nat) (ho : ob.op = Op.indexAddr 117 x y) (hx : a x = .slice (some ⟨B, o, none⟩) ln lc) (hy : a y = .int .i64 (k : Int)) (hk : k < ln) (W : World) :
    (execOp a ob).run Try.prog W = .ok (.value (.pointer (some ⟨B, o + k, none⟩))) W := by
  unfold execOp
  rw [ho]
  simp only [hx, hy]
  simp [ixb B o ln lc k hk W]
theorem addI {a : Operand → Value} {ob : Oper} {x : Operand} (K : Nat) (hK : K ≤ 1000) (ho : ob.op = .binOp .add 3 x (.const (.int .i64 1)) 3) (hx : a x = .int .i64 (K : Int)) (hc : a (.const (.int .i64 1)) = .int .i64 1) (W : World) :
    (execOp a ob).run Try.prog W = .ok (.value (.int .i64 ((K + 1 : Nat) : Int))) W := by
  have e : IntKind.i64.wrap ((K : Int) + 1) = ((K + 1 : Nat) : Int) := by
    simp [IntKind.wrap, IntKind.bits, IntKind.signed]
    omega
  have hr : (binOp .add 3 (.int .i64 (K : Int)) (.int .i64 1)).run Try.prog W = .ok (.int .i64 (IntKind.i64.wrap ((K : Int) + 1))) W := by kernel_rfl
  have hg : (eqGuard .add 3 x (.const (.int .i64 1)) (.int .i64 (K : Int)) (.int .i64 1)).run Try.prog W = .ok () W := by kernel_rfl
  rw [e] at hr
  unfold execOp
  simp only [ho, hx, hc, Sem.run_bind, hg, Result.andThen_ok, hr, Sem.run_pure]
theorem neE {x : Int} (hx : x ≠ 0) (W : World) : (binOp .neq 26 (.int .i64 x) (.int .i64 0)).run Try.prog W = .ok (.bool true) W := by
  simp [binOp, go_sem, hx]
theorem neU (x : Int) (W : World) : (binOp .neq 37 (.int .u64 x) (.int .u64 x)).run Try.prog W = .ok (.bool false) W := by
  simp [binOp, go_sem]
theorem pre_in {w : World} {g n c : Nat} {vs : List Vt} (h : VtIn w (some ⟨g, 0, none⟩) n c vs) (K : Nat) (hK : K ≤ n) : VtIn w (some ⟨g, 0, none⟩) K c (vs.take K) := by
  refine ⟨by rw [List.length_take, h.len]; omega, Nat.le_trans hK h.cap, h.small, fun hp => ?_, fun x hx => h.ok x (List.mem_of_mem_take hx)⟩
  obtain ⟨B, o, e, hB, hr⟩ := h.row (by omega)
  exact ⟨B, o, e, hB, fun i x hx => hr i x (by
    have hi := (List.getElem?_eq_some_iff.1 hx).1
    rw [List.length_take] at hi
    rwa [List.getElem?_take_of_lt (by omega)] at hx)⟩
theorem suf_in {w : World} {g n c : Nat} {vs : List Vt} (h : VtIn w (some ⟨g, 0, none⟩) n c vs) (K : Nat) (hK : K ≤ n) : VtIn w (sa2 (some ⟨g, 0, none⟩) c K) (n - K) (c - K) (vs.drop K) := by
  have h1 := h.cap
  have h2 := h.small
  refine ⟨by rw [List.length_drop, h.len], by omega, by omega, fun hp => ?_, fun x hx => h.ok x (List.mem_of_mem_drop hx)⟩
  obtain ⟨B, o, e, hB, hr⟩ := h.row (by omega)
  cases e
  refine ⟨g, 0 + K * 2, by unfold sa2; rw [if_neg (by omega), Option.map_some, Addr.add_mid], hB, fun i x hx => ?_⟩
  have := hr (K + i) x (by rwa [List.getElem?_drop] at hx)
  rwa [show 0 + (K + i) * 2 = 0 + K * 2 + i * 2 by omega] at this
/-- append of votes that come in, onto a new list. -/
theorem app_in (U : World) (v : Value) (olds news : List Vt) (sa : Option Addr) (sn sc : Nat) (hO : OwnT U v olds) (hx : VtIn U sa sn sc news) (hl : olds.length + news.length ≤ 1000) :
    ∃ v' w', (Builtin.append_ #[TL, TL] TL #[v, .slice sa sn sc]).run Try.prog U = .ok v' w' ∧ OwnT w' v' (olds ++ news) ∧ Fr (fun k => v.ownBlock = some k) U w' ∧ NewOr U v v' :=
  app_votes U TL TL v (.slice sa sn sc) olds news hO (hx.src Try.underlying92) hx.ok (by omega)
theorem step_app {P : Program} {o : Oper} {a : Act} {w : World} {K : Act → World → Prop} {Q : Exit → Act → World → Prop} (t tx : TypeId) (x y : Operand) (ho : o.op = .call { callee := .builtin .append, args := #[x, y], argTypes := #[t, tx] }) (v s : Value) (hx : a.eval x = v) (hy : a.eval y = s)
    (v' : Value) (w' : World) (hr : (Builtin.append_ #[t, tx] o.type #[v, s]).run P w = .ok v' w') (h : K (a.put o.dst v') w') : o.wp P a w K Q := by
  unfold Oper.wp execOp
  simp only [ho, resolve, invoke, builtin, Sem.run_bind, Sem.run_pure, Result.andThen_ok, List.map_toArray, List.map_cons, List.map_nil, hx, hy, hr]
  exact h
theorem range_from {w : World} {X : Nat} {T : TypeId} {cs : List Value} (h : At w X T cs) : w.rangeAt X 0 cs := fun j v hj => by
  rw [Nat.zero_add, h.cell]
  exact hj
def vlen : Value → Nat
  | .slice _ n _ => n
  | _ => 0
def MidG (w : World) (ht : Int) (h : List Int) (vs : List Vt) (X : Nat) (cx : List Value) (A B C : Nat) (s i : Value) (U : World) : Prop :=
  ∃ (k : Nat) (left al x y : List Vt) (la : Option Addr) (lc : Nat) (aa : Option Addr) (an ac : Nat) (xa : Option Addr) (xn xc : Nat) (ya : Option Addr) (yn yc : Nat),
    s = .slice la left.length lc ∧ i = .int .i64 (k : Int) ∧ k + left.length = vs.length ∧ Gr vs left al x y ∧
    Bag w U [box TC A (ccl ht h (.slice aa an ac)), box TC B (ccl ht h (.slice xa xn xc)), box TC C (ccl ht h (.slice ya yn yc)), ownt (.slice la left.length lc) left, ownt (.slice aa an ac) al, ownt (.slice xa xn xc) x, ownt (.slice ya yn yc) y, box TC X cx]
set_option maxRecDepth 20000 in
set_option maxHeartbeats 16000000 in
theorem grow_a (w : World) (ht : Int) (h : List Int) (a : Option Addr) (n c : Nat) (vs : List Vt) (oa : Option Addr) (on oc : Nat) (fo : Nat → Int) (pa : Option Addr) (pn pc : Nat) (fp : Nat → Bool) (hl : h.length = 32) (hv : VtIn w a n c vs) (_ho : SIn w (fun i => .int .i64 (fo i)) oa on) (_hp : SIn w (fun i => .bool (fp i)) pa pn) (hc : 70 < n) : Calls Try.prog 15 #[.agg (ccl ht h (.slice a n c)).toArray, .slice oa on oc, .slice pa pn pc] w fun e w' => e = .returned (.bool true) ∧ Below w.heap.size w w' := by
  have HL := WirS.hide hl
  have HV := WirS.hide hv
  have HLA := WirS.hide (fun U => CmD.long_any U ht h a n c hl)
  rw [decide_eq_true hc] at HLA
  clear hl hv _ho _hp hc
  have H1 := WirS.hide (Bag.nil (Below.refl w.heap.size w))
  go_enter Try.func15, Try.ntmps15
  go_upto_region 0 with fail
  refine wp_region_lit ?_
  refine sV (.pointer (some ⟨w.heap.size, 0, none⟩)) (w.alloc (.cells (ccl ht h (.slice a n c)).toArray TC)) (by kernel_rfl) (by kernel_rfl) ?_
  simp only [Act.put, List.setIfInBounds_toArray, List.set_cons_succ, List.set_cons_zero]
  obtain ⟨X, eX⟩ : ∃ A, w.heap.size = A := ⟨_, rfl⟩
  have hbX := bag_box (T := TC) (cs := (ccl ht h (.slice a n c))) (X := X) H1.out eX.symm (w' := w.alloc (.cells (ccl ht h (.slice a n c)).toArray TC)) (by rw [← eX]; exact At.new _ _ _) (Below.alloc (Below.refl _ _) (Nat.le_refl _) _)
  rw [eX]
  clear eX
  generalize World.alloc w _ = u2 at *
  have H3 := WirS.hide (hbX)
  clear H1
  clear hbX
  go_upto_region 1 with fail
  refine wp_region_lit ?_
  refine sC (R := fun w' => Below u2.heap.size u2 w') (v := .bool true) (by kernel_rfl) (by kernel_rfl) (CmR.known_any u2) ?_
  rintro u4 hb
  simp only [Act.put, List.setIfInBounds_toArray, List.set_cons_succ, List.set_cons_zero]
  have H5 := WirS.hide (H3.out.more hb)
  clear H3
  clear hb
  go_upto_region 2 with fail
  refine wp_region_lit ?_
  refine sL (by kernel_rfl) _ _ (by rfl) _ (by kernel_rfl) (H5.out.all (box TC X (ccl ht h (.slice a n c))) (by simp)).1 _ _ UC rfl (by kernel_rfl) (by rw [ccl_len _ _ _ HL.out]) ?_
  simp only [Act.put, List.setIfInBounds_toArray, List.set_cons_succ, List.set_cons_zero]
  refine sC (R := fun w' => Below u4.heap.size u4 w') (v := .bool true) (by kernel_rfl) (by kernel_rfl) (HLA.out u4) ?_
  rintro u6 hb
  simp only [Act.put, List.setIfInBounds_toArray, List.set_cons_succ, List.set_cons_zero]
  have H7 := WirS.hide (H5.out.more hb)
  clear H5
  clear hb
  refine sV (.bool true) (u6) (by kernel_rfl) (by kernel_rfl) ?_
  simp only [Act.put, List.setIfInBounds_toArray, List.set_cons_succ, List.set_cons_zero]
  with_reducible refine sS (by kernel_rfl) ?_
  simp only [Act.put, List.setIfInBounds_toArray, List.set_cons_succ, List.set_cons_zero]
  with_reducible refine sS (by kernel_rfl) ?_
  simp only [Act.put, List.setIfInBounds_toArray, List.set_cons_succ, List.set_cons_zero]
  with_reducible refine sS (by kernel_rfl) ?_
  simp only [Act.put, List.setIfInBounds_toArray, List.set_cons_succ, List.set_cons_zero]
  refine sV (.bool true) (u6) (by kernel_rfl) (by kernel_rfl) ?_
  simp only [Act.put, List.setIfInBounds_toArray, List.set_cons_succ, List.set_cons_zero]
  refine sV (.bool true) (u6) (by kernel_rfl) (by kernel_rfl) ?_
  simp only [Act.put, List.setIfInBounds_toArray, List.set_cons_succ, List.set_cons_zero]
  with_reducible refine sS (by kernel_rfl) ?_
  simp only [Act.put, List.setIfInBounds_toArray, List.set_cons_succ, List.set_cons_zero]
  with_reducible refine sS (by kernel_rfl) ?_
  simp only [Act.put, List.setIfInBounds_toArray, List.set_cons_succ, List.set_cons_zero]
  with_reducible refine sS (by kernel_rfl) ?_
  simp only [Act.put, List.setIfInBounds_toArray, List.set_cons_succ, List.set_cons_zero]
  refine sV (.bool true) (u6) (by kernel_rfl) (by kernel_rfl) ?_
  simp only [Act.put, List.setIfInBounds_toArray, List.set_cons_succ, List.set_cons_zero]
  refine sV (.bool true) (u6) (by kernel_rfl) (by kernel_rfl) ?_
  simp only [Act.put, List.setIfInBounds_toArray, List.set_cons_succ, List.set_cons_zero]
  with_reducible refine sS (by kernel_rfl) ?_
  simp only [Act.put, List.setIfInBounds_toArray, List.set_cons_succ, List.set_cons_zero]
  with_reducible refine sS (by kernel_rfl) ?_
  simp only [Act.put, List.setIfInBounds_toArray, List.set_cons_succ, List.set_cons_zero]
  with_reducible refine sS (by kernel_rfl) ?_
  simp only [Act.put, List.setIfInBounds_toArray, List.set_cons_succ, List.set_cons_zero]
  refine sV (.bool true) (u6) (by kernel_rfl) (by kernel_rfl) ?_
  simp only [Act.put, List.setIfInBounds_toArray, List.set_cons_succ, List.set_cons_zero]
  go_wp2_with fail
  go_ret
  exact ⟨rfl, H7.out.low⟩
set_option maxRecDepth 20000 in
set_option maxHeartbeats 16000000 in
theorem grow_b (w : World) (ht : Int) (h : List Int) (a : Option Addr) (n c : Nat) (vs : List Vt) (oa : Option Addr) (on oc : Nat) (fo : Nat → Int) (pa : Option Addr) (pn pc : Nat) (fp : Nat → Bool) (hl : h.length = 32) (hv : VtIn w a n c vs) (_ho : SIn w (fun i => .int .i64 (fo i)) oa on) (_hp : SIn w (fun i => .bool (fp i)) pa pn) (hc : ¬ 70 < n) (hc2 : 100 < on) : Calls Try.prog 15 #[.agg (ccl ht h (.slice a n c)).toArray, .slice oa on oc, .slice pa pn pc] w fun e w' => e = .returned (.bool true) ∧ Below w.heap.size w w' := by
  have HL := WirS.hide hl
  have HV := WirS.hide hv
  have HLA := WirS.hide (fun U => CmD.long_any U ht h a n c hl)
  rw [decide_eq_false hc] at HLA
  have HD1 := WirS.hide (show decide ((100 : Int) < (on : Int)) = true by simp; omega)
  clear hl hv _ho _hp hc hc2
  have H8 := WirS.hide (Bag.nil (Below.refl w.heap.size w))
  go_enter Try.func15, Try.ntmps15
  go_upto_region 0 with fail
  refine wp_region_lit ?_
  refine sV (.pointer (some ⟨w.heap.size, 0, none⟩)) (w.alloc (.cells (ccl ht h (.slice a n c)).toArray TC)) (by kernel_rfl) (by kernel_rfl) ?_
  simp only [Act.put, List.setIfInBounds_toArray, List.set_cons_succ, List.set_cons_zero]
  obtain ⟨X, eX⟩ : ∃ A, w.heap.size = A := ⟨_, rfl⟩
  have hbX := bag_box (T := TC) (cs := (ccl ht h (.slice a n c))) (X := X) H8.out eX.symm (w' := w.alloc (.cells (ccl ht h (.slice a n c)).toArray TC)) (by rw [← eX]; exact At.new _ _ _) (Below.alloc (Below.refl _ _) (Nat.le_refl _) _)
  rw [eX]
  clear eX
  generalize World.alloc w _ = u9 at *
  have H10 := WirS.hide (hbX)
  clear H8
  clear hbX
  go_upto_region 1 with fail
  refine wp_region_lit ?_
  refine sC (R := fun w' => Below u9.heap.size u9 w') (v := .bool true) (by kernel_rfl) (by kernel_rfl) (CmR.known_any u9) ?_
  rintro u11 hb
  simp only [Act.put, List.setIfInBounds_toArray, List.set_cons_succ, List.set_cons_zero]
  have H12 := WirS.hide (H10.out.more hb)
  clear H10
  clear hb
  go_upto_region 2 with fail
  refine wp_region_lit ?_
  refine sL (by kernel_rfl) _ _ (by rfl) _ (by kernel_rfl) (H12.out.all (box TC X (ccl ht h (.slice a n c))) (by simp)).1 _ _ UC rfl (by kernel_rfl) (by rw [ccl_len _ _ _ HL.out]) ?_
  simp only [Act.put, List.setIfInBounds_toArray, List.set_cons_succ, List.set_cons_zero]
  refine sC (R := fun w' => Below u11.heap.size u11 w') (v := .bool false) (by kernel_rfl) (by kernel_rfl) (HLA.out u11) ?_
  rintro u13 hb
  simp only [Act.put, List.setIfInBounds_toArray, List.set_cons_succ, List.set_cons_zero]
  have H14 := WirS.hide (H12.out.more hb)
  clear H12
  clear hb
  refine sV (.bool false) (u13) (by kernel_rfl) (by kernel_rfl) ?_
  simp only [Act.put, List.setIfInBounds_toArray, List.set_cons_succ, List.set_cons_zero]
  refine sV (.slice oa on oc) (u13) (by kernel_rfl) (by kernel_rfl) ?_
  simp only [Act.put, List.setIfInBounds_toArray, List.set_cons_succ, List.set_cons_zero]
  refine sV (.int .i64 (on : Int)) (u13) (by kernel_rfl) (by kernel_rfl) ?_
  simp only [Act.put, List.setIfInBounds_toArray, List.set_cons_succ, List.set_cons_zero]
  refine sV (.bool (decide ((100 : Int) < (on : Int)))) (u13) (by kernel_rfl) (by kernel_rfl) ?_
  simp only [Act.put, List.setIfInBounds_toArray, List.set_cons_succ, List.set_cons_zero]
  rw [HD1.out]
  refine sV (.bool true) (u13) (by kernel_rfl) (by kernel_rfl) ?_
  simp only [Act.put, List.setIfInBounds_toArray, List.set_cons_succ, List.set_cons_zero]
  refine sV (.bool true) (u13) (by kernel_rfl) (by kernel_rfl) ?_
  simp only [Act.put, List.setIfInBounds_toArray, List.set_cons_succ, List.set_cons_zero]
  with_reducible refine sS (by kernel_rfl) ?_
  simp only [Act.put, List.setIfInBounds_toArray, List.set_cons_succ, List.set_cons_zero]
  with_reducible refine sS (by kernel_rfl) ?_
  simp only [Act.put, List.setIfInBounds_toArray, List.set_cons_succ, List.set_cons_zero]
  with_reducible refine sS (by kernel_rfl) ?_
  simp only [Act.put, List.setIfInBounds_toArray, List.set_cons_succ, List.set_cons_zero]
  refine sV (.bool true) (u13) (by kernel_rfl) (by kernel_rfl) ?_
  simp only [Act.put, List.setIfInBounds_toArray, List.set_cons_succ, List.set_cons_zero]
  refine sV (.bool true) (u13) (by kernel_rfl) (by kernel_rfl) ?_
  simp only [Act.put, List.setIfInBounds_toArray, List.set_cons_succ, List.set_cons_zero]
  with_reducible refine sS (by kernel_rfl) ?_
  simp only [Act.put, List.setIfInBounds_toArray, List.set_cons_succ, List.set_cons_zero]
  with_reducible refine sS (by kernel_rfl) ?_
  simp only [Act.put, List.setIfInBounds_toArray, List.set_cons_succ, List.set_cons_zero]
  with_reducible refine sS (by kernel_rfl) ?_
  simp only [Act.put, List.setIfInBounds_toArray, List.set_cons_succ, List.set_cons_zero]
  refine sV (.bool true) (u13) (by kernel_rfl) (by kernel_rfl) ?_
  simp only [Act.put, List.setIfInBounds_toArray, List.set_cons_succ, List.set_cons_zero]
  go_wp2_with fail
  go_ret
  exact ⟨rfl, H14.out.low⟩
set_option maxRecDepth 20000 in
set_option maxHeartbeats 16000000 in
theorem grow_c (w : World) (ht : Int) (h : List Int) (a : Option Addr) (n c : Nat) (vs : List Vt) (oa : Option Addr) (on oc : Nat) (fo : Nat → Int) (pa : Option Addr) (pn pc : Nat) (fp : Nat → Bool) (hl : h.length = 32) (hv : VtIn w a n c vs) (_ho : SIn w (fun i => .int .i64 (fo i)) oa on) (_hp : SIn w (fun i => .bool (fp i)) pa pn) (hc : ¬ 70 < n) (hc2 : ¬ 100 < on) (hc3 : 100 < pn) : Calls Try.prog 15 #[.agg (ccl ht h (.slice a n c)).toArray, .slice oa on oc, .slice pa pn pc] w fun e w' => e = .returned (.bool true) ∧ Below w.heap.size w w' := by
  have HL := WirS.hide hl
  have HV := WirS.hide hv
  have HLA := WirS.hide (fun U => CmD.long_any U ht h a n c hl)
  rw [decide_eq_false hc] at HLA
  have HD1 := WirS.hide (show decide ((100 : Int) < (on : Int)) = false by simp; omega)
  have HD2 := WirS.hide (show decide ((100 : Int) < (pn : Int)) = true by simp; omega)
  clear hl hv _ho _hp hc hc2 hc3
  have H15 := WirS.hide (Bag.nil (Below.refl w.heap.size w))
  go_enter Try.func15, Try.ntmps15
  go_upto_region 0 with fail
  refine wp_region_lit ?_
  refine sV (.pointer (some ⟨w.heap.size, 0, none⟩)) (w.alloc (.cells (ccl ht h (.slice a n c)).toArray TC)) (by kernel_rfl) (by kernel_rfl) ?_
  simp only [Act.put, List.setIfInBounds_toArray, List.set_cons_succ, List.set_cons_zero]
  obtain ⟨X, eX⟩ : ∃ A, w.heap.size = A := ⟨_, rfl⟩
  have hbX := bag_box (T := TC) (cs := (ccl ht h (.slice a n c))) (X := X) H15.out eX.symm (w' := w.alloc (.cells (ccl ht h (.slice a n c)).toArray TC)) (by rw [← eX]; exact At.new _ _ _) (Below.alloc (Below.refl _ _) (Nat.le_refl _) _)
  rw [eX]
  clear eX
  generalize World.alloc w _ = u16 at *
  have H17 := WirS.hide (hbX)
  clear H15
  clear hbX
  go_upto_region 1 with fail
  refine wp_region_lit ?_
  refine sC (R := fun w' => Below u16.heap.size u16 w') (v := .bool true) (by kernel_rfl) (by kernel_rfl) (CmR.known_any u16) ?_
  rintro u18 hb
  simp only [Act.put, List.setIfInBounds_toArray, List.set_cons_succ, List.set_cons_zero]
  have H19 := WirS.hide (H17.out.more hb)
  clear H17
  clear hb
  go_upto_region 2 with fail
  refine wp_region_lit ?_
  refine sL (by kernel_rfl) _ _ (by rfl) _ (by kernel_rfl) (H19.out.all (box TC X (ccl ht h (.slice a n c))) (by simp)).1 _ _ UC rfl (by kernel_rfl) (by rw [ccl_len _ _ _ HL.out]) ?_
  simp only [Act.put, List.setIfInBounds_toArray, List.set_cons_succ, List.set_cons_zero]
  refine sC (R := fun w' => Below u18.heap.size u18 w') (v := .bool false) (by kernel_rfl) (by kernel_rfl) (HLA.out u18) ?_
  rintro u20 hb
  simp only [Act.put, List.setIfInBounds_toArray, List.set_cons_succ, List.set_cons_zero]
  have H21 := WirS.hide (H19.out.more hb)
  clear H19
  clear hb
  refine sV (.bool false) (u20) (by kernel_rfl) (by kernel_rfl) ?_
  simp only [Act.put, List.setIfInBounds_toArray, List.set_cons_succ, List.set_cons_zero]
  refine sV (.slice oa on oc) (u20) (by kernel_rfl) (by kernel_rfl) ?_
  simp only [Act.put, List.setIfInBounds_toArray, List.set_cons_succ, List.set_cons_zero]
  refine sV (.int .i64 (on : Int)) (u20) (by kernel_rfl) (by kernel_rfl) ?_
  simp only [Act.put, List.setIfInBounds_toArray, List.set_cons_succ, List.set_cons_zero]
  refine sV (.bool (decide ((100 : Int) < (on : Int)))) (u20) (by kernel_rfl) (by kernel_rfl) ?_
  simp only [Act.put, List.setIfInBounds_toArray, List.set_cons_succ, List.set_cons_zero]
  rw [HD1.out]
  refine sV (.bool false) (u20) (by kernel_rfl) (by kernel_rfl) ?_
  simp only [Act.put, List.setIfInBounds_toArray, List.set_cons_succ, List.set_cons_zero]
  refine sV (.bool false) (u20) (by kernel_rfl) (by kernel_rfl) ?_
  simp only [Act.put, List.setIfInBounds_toArray, List.set_cons_succ, List.set_cons_zero]
  refine sV (.slice pa pn pc) (u20) (by kernel_rfl) (by kernel_rfl) ?_
  simp only [Act.put, List.setIfInBounds_toArray, List.set_cons_succ, List.set_cons_zero]
  refine sV (.int .i64 (pn : Int)) (u20) (by kernel_rfl) (by kernel_rfl) ?_
  simp only [Act.put, List.setIfInBounds_toArray, List.set_cons_succ, List.set_cons_zero]
  refine sV (.bool (decide ((100 : Int) < (pn : Int)))) (u20) (by kernel_rfl) (by kernel_rfl) ?_
  simp only [Act.put, List.setIfInBounds_toArray, List.set_cons_succ, List.set_cons_zero]
  rw [HD2.out]
  refine sV (.bool true) (u20) (by kernel_rfl) (by kernel_rfl) ?_
  simp only [Act.put, List.setIfInBounds_toArray, List.set_cons_succ, List.set_cons_zero]
  refine sV (.bool true) (u20) (by kernel_rfl) (by kernel_rfl) ?_
  simp only [Act.put, List.setIfInBounds_toArray, List.set_cons_succ, List.set_cons_zero]
  with_reducible refine sS (by kernel_rfl) ?_
  simp only [Act.put, List.setIfInBounds_toArray, List.set_cons_succ, List.set_cons_zero]
  with_reducible refine sS (by kernel_rfl) ?_
  simp only [Act.put, List.setIfInBounds_toArray, List.set_cons_succ, List.set_cons_zero]
  with_reducible refine sS (by kernel_rfl) ?_
  simp only [Act.put, List.setIfInBounds_toArray, List.set_cons_succ, List.set_cons_zero]
  refine sV (.bool true) (u20) (by kernel_rfl) (by kernel_rfl) ?_
  simp only [Act.put, List.setIfInBounds_toArray, List.set_cons_succ, List.set_cons_zero]
  go_wp2_with fail
  go_ret
  exact ⟨rfl, H21.out.low⟩
set_option maxRecDepth 20000 in
set_option maxHeartbeats 16000000 in
theorem grow_d (w : World) (ht : Int) (h : List Int) (a : Option Addr) (n c : Nat) (vs : List Vt) (oa : Option Addr) (on oc : Nat) (fo : Nat → Int) (pa : Option Addr) (pn pc : Nat) (fp : Nat → Bool) (hl : h.length = 32) (hv : VtIn w a n c vs) (_ho : SIn w (fun i => .int .i64 (fo i)) oa on) (_hp : SIn w (fun i => .bool (fp i)) pa pn) (hc : ¬ 70 < n) (hc2 : ¬ 100 < on) (hc3 : ¬ 100 < pn) (hk : chk ht vs ≠ 0) : Calls Try.prog 15 #[.agg (ccl ht h (.slice a n c)).toArray, .slice oa on oc, .slice pa pn pc] w fun e w' => e = .returned (.bool true) ∧ Below w.heap.size w w' := by
  have HL := WirS.hide hl
  have HV := WirS.hide hv
  have HLA := WirS.hide (fun U => CmD.long_any U ht h a n c hl)
  rw [decide_eq_false hc] at HLA
  have HD1 := WirS.hide (show decide ((100 : Int) < (on : Int)) = false by simp; omega)
  have HD2 := WirS.hide (show decide ((100 : Int) < (pn : Int)) = false by simp; omega)
  have HCK := WirS.hide (fun U (hU : Below w.heap.size w U) => check_any U ht h a n c vs hl (hv.below hU))
  generalize chk ht vs = cd at *
  have HNE := WirS.hide hk
  clear hl hv _ho _hp hc hc2 hc3 hk
  have H22 := WirS.hide (Bag.nil (Below.refl w.heap.size w))
  go_enter Try.func15, Try.ntmps15
  go_upto_region 0 with fail
  refine wp_region_lit ?_
  refine sV (.pointer (some ⟨w.heap.size, 0, none⟩)) (w.alloc (.cells (ccl ht h (.slice a n c)).toArray TC)) (by kernel_rfl) (by kernel_rfl) ?_
  simp only [Act.put, List.setIfInBounds_toArray, List.set_cons_succ, List.set_cons_zero]
  obtain ⟨X, eX⟩ : ∃ A, w.heap.size = A := ⟨_, rfl⟩
  have hbX := bag_box (T := TC) (cs := (ccl ht h (.slice a n c))) (X := X) H22.out eX.symm (w' := w.alloc (.cells (ccl ht h (.slice a n c)).toArray TC)) (by rw [← eX]; exact At.new _ _ _) (Below.alloc (Below.refl _ _) (Nat.le_refl _) _)
  rw [eX]
  clear eX
  generalize World.alloc w _ = u23 at *
  have H24 := WirS.hide (hbX)
  clear H22
  clear hbX
  go_upto_region 1 with fail
  refine wp_region_lit ?_
  refine sC (R := fun w' => Below u23.heap.size u23 w') (v := .bool true) (by kernel_rfl) (by kernel_rfl) (CmR.known_any u23) ?_
  rintro u25 hb
  simp only [Act.put, List.setIfInBounds_toArray, List.set_cons_succ, List.set_cons_zero]
  have H26 := WirS.hide (H24.out.more hb)
  clear H24
  clear hb
  go_upto_region 2 with fail
  refine wp_region_lit ?_
  refine sL (by kernel_rfl) _ _ (by rfl) _ (by kernel_rfl) (H26.out.all (box TC X (ccl ht h (.slice a n c))) (by simp)).1 _ _ UC rfl (by kernel_rfl) (by rw [ccl_len _ _ _ HL.out]) ?_
  simp only [Act.put, List.setIfInBounds_toArray, List.set_cons_succ, List.set_cons_zero]
  refine sC (R := fun w' => Below u25.heap.size u25 w') (v := .bool false) (by kernel_rfl) (by kernel_rfl) (HLA.out u25) ?_
  rintro u27 hb
  simp only [Act.put, List.setIfInBounds_toArray, List.set_cons_succ, List.set_cons_zero]
  have H28 := WirS.hide (H26.out.more hb)
  clear H26
  clear hb
  refine sV (.bool false) (u27) (by kernel_rfl) (by kernel_rfl) ?_
  simp only [Act.put, List.setIfInBounds_toArray, List.set_cons_succ, List.set_cons_zero]
  refine sV (.slice oa on oc) (u27) (by kernel_rfl) (by kernel_rfl) ?_
  simp only [Act.put, List.setIfInBounds_toArray, List.set_cons_succ, List.set_cons_zero]
  refine sV (.int .i64 (on : Int)) (u27) (by kernel_rfl) (by kernel_rfl) ?_
  simp only [Act.put, List.setIfInBounds_toArray, List.set_cons_succ, List.set_cons_zero]
  refine sV (.bool (decide ((100 : Int) < (on : Int)))) (u27) (by kernel_rfl) (by kernel_rfl) ?_
  simp only [Act.put, List.setIfInBounds_toArray, List.set_cons_succ, List.set_cons_zero]
  rw [HD1.out]
  refine sV (.bool false) (u27) (by kernel_rfl) (by kernel_rfl) ?_
  simp only [Act.put, List.setIfInBounds_toArray, List.set_cons_succ, List.set_cons_zero]
  refine sV (.bool false) (u27) (by kernel_rfl) (by kernel_rfl) ?_
  simp only [Act.put, List.setIfInBounds_toArray, List.set_cons_succ, List.set_cons_zero]
  refine sV (.slice pa pn pc) (u27) (by kernel_rfl) (by kernel_rfl) ?_
  simp only [Act.put, List.setIfInBounds_toArray, List.set_cons_succ, List.set_cons_zero]
  refine sV (.int .i64 (pn : Int)) (u27) (by kernel_rfl) (by kernel_rfl) ?_
  simp only [Act.put, List.setIfInBounds_toArray, List.set_cons_succ, List.set_cons_zero]
  refine sV (.bool (decide ((100 : Int) < (pn : Int)))) (u27) (by kernel_rfl) (by kernel_rfl) ?_
  simp only [Act.put, List.setIfInBounds_toArray, List.set_cons_succ, List.set_cons_zero]
  rw [HD2.out]
  refine sV (.bool false) (u27) (by kernel_rfl) (by kernel_rfl) ?_
  simp only [Act.put, List.setIfInBounds_toArray, List.set_cons_succ, List.set_cons_zero]
  refine sV (.bool false) (u27) (by kernel_rfl) (by kernel_rfl) ?_
  simp only [Act.put, List.setIfInBounds_toArray, List.set_cons_succ, List.set_cons_zero]
  refine sL (by kernel_rfl) _ _ (by rfl) _ (by kernel_rfl) (H28.out.all (box TC X (ccl ht h (.slice a n c))) (by simp)).1 _ _ UC rfl (by kernel_rfl) (by rw [ccl_len _ _ _ HL.out]) ?_
  simp only [Act.put, List.setIfInBounds_toArray, List.set_cons_succ, List.set_cons_zero]
  refine sC (R := fun w' => Below u27.heap.size u27 w') (v := .int .i64 cd) (by kernel_rfl) (by kernel_rfl) (HCK.out u27 H28.out.low) ?_
  rintro u29 hb
  simp only [Act.put, List.setIfInBounds_toArray, List.set_cons_succ, List.set_cons_zero]
  have H30 := WirS.hide (H28.out.more hb)
  clear H28
  clear hb
  refine sB (by kernel_rfl) .neq 26 _ _ _ (by rfl) (.int .i64 cd) (.int .i64 0) (by kernel_rfl) (by kernel_rfl) (.bool true) (neE HNE.out u29) (by kernel_rfl) ?_
  simp only [Act.put, List.setIfInBounds_toArray, List.set_cons_succ, List.set_cons_zero]
  refine sV (.bool true) (u29) (by kernel_rfl) (by kernel_rfl) ?_
  simp only [Act.put, List.setIfInBounds_toArray, List.set_cons_succ, List.set_cons_zero]
  go_wp2_with fail
  go_ret
  exact ⟨rfl, H30.out.low⟩
set_option maxRecDepth 20000 in
set_option maxHeartbeats 16000000 in
theorem grow_e (w : World) (ht : Int) (h : List Int) (a : Option Addr) (n c : Nat) (vs : List Vt) (oa : Option Addr) (on oc : Nat) (fo : Nat → Int) (pa : Option Addr) (pn pc : Nat) (fp : Nat → Bool) (hl : h.length = 32) (hv : VtIn w a n c vs) (ho : SIn w (fun i => .int .i64 (fo i)) oa on) (hp : SIn w (fun i => .bool (fp i)) pa pn) (hc : ¬ 70 < n) (hc2 : ¬ 100 < on) (hc3 : ¬ 100 < pn) (hk : chk ht vs = 0) : Calls Try.prog 15 #[.agg (ccl ht h (.slice a n c)).toArray, .slice oa on oc, .slice pa pn pc] w fun e w' => e = .returned (.bool true) ∧ Below w.heap.size w w' := by
  have hvl := hv.len
  have HL := WirS.hide hl
  have HV := WirS.hide hv
  have HLA := WirS.hide (fun U => CmD.long_any U ht h a n c hl)
  rw [decide_eq_false hc] at HLA
  have HD1 := WirS.hide (show decide ((100 : Int) < (on : Int)) = false by simp; omega)
  have HD2 := WirS.hide (show decide ((100 : Int) < (pn : Int)) = false by simp; omega)
  have HCK := WirS.hide (fun U (hU : Below w.heap.size w U) => check_any U ht h a n c vs hl (hv.below hU))
  rw [hk] at HCK
  have HCP := WirS.hide (fun U (hU : Below w.heap.size w U) => copy_any U ht h a n c vs hl (hv.below hU) (by omega))
  have hups := ((chk_up ht vs).1 hk).2.2
  have HO := WirS.hide ho
  have HP := WirS.hide hp
  have HK := WirS.hide hk
  have HUP := WirS.hide hups
  have HVOK := WirS.hide hv.ok
  have HVL := WirS.hide hvl
  have HN := WirS.hide (show n ≤ 70 by omega)
  have HON := WirS.hide (show on ≤ 100 by omega)
  have HPN := WirS.hide (show pn ≤ 100 by omega)
  clear hl hv ho hp hc hc2 hc3 hk hups hvl
  have H31 := WirS.hide (Bag.nil (Below.refl w.heap.size w))
  go_enter Try.func15, Try.ntmps15
  go_upto_region 0 with fail
  refine wp_region_lit ?_
  refine sV (.pointer (some ⟨w.heap.size, 0, none⟩)) (w.alloc (.cells (ccl ht h (.slice a n c)).toArray TC)) (by kernel_rfl) (by kernel_rfl) ?_
  simp only [Act.put, List.setIfInBounds_toArray, List.set_cons_succ, List.set_cons_zero]
  obtain ⟨X, eX⟩ : ∃ A, w.heap.size = A := ⟨_, rfl⟩
  have hbX := bag_box (T := TC) (cs := (ccl ht h (.slice a n c))) (X := X) H31.out eX.symm (w' := w.alloc (.cells (ccl ht h (.slice a n c)).toArray TC)) (by rw [← eX]; exact At.new _ _ _) (Below.alloc (Below.refl _ _) (Nat.le_refl _) _)
  rw [eX]
  clear eX
  generalize World.alloc w _ = u32 at *
  have H33 := WirS.hide (hbX)
  clear H31
  clear hbX
  go_upto_region 1 with fail
  refine wp_region_lit ?_
  refine sC (R := fun w' => Below u32.heap.size u32 w') (v := .bool true) (by kernel_rfl) (by kernel_rfl) (CmR.known_any u32) ?_
  rintro u34 hb
  simp only [Act.put, List.setIfInBounds_toArray, List.set_cons_succ, List.set_cons_zero]
  have H35 := WirS.hide (H33.out.more hb)
  clear H33
  clear hb
  go_upto_region 2 with fail
  refine wp_region_lit ?_
  refine sL (by kernel_rfl) _ _ (by rfl) _ (by kernel_rfl) (H35.out.all (box TC X (ccl ht h (.slice a n c))) (by simp)).1 _ _ UC rfl (by kernel_rfl) (by rw [ccl_len _ _ _ HL.out]) ?_
  simp only [Act.put, List.setIfInBounds_toArray, List.set_cons_succ, List.set_cons_zero]
  refine sC (R := fun w' => Below u34.heap.size u34 w') (v := .bool false) (by kernel_rfl) (by kernel_rfl) (HLA.out u34) ?_
  rintro u36 hb
  simp only [Act.put, List.setIfInBounds_toArray, List.set_cons_succ, List.set_cons_zero]
  have H37 := WirS.hide (H35.out.more hb)
  clear H35
  clear hb
  refine sV (.bool false) (u36) (by kernel_rfl) (by kernel_rfl) ?_
  simp only [Act.put, List.setIfInBounds_toArray, List.set_cons_succ, List.set_cons_zero]
  refine sV (.slice oa on oc) (u36) (by kernel_rfl) (by kernel_rfl) ?_
  simp only [Act.put, List.setIfInBounds_toArray, List.set_cons_succ, List.set_cons_zero]
  refine sV (.int .i64 (on : Int)) (u36) (by kernel_rfl) (by kernel_rfl) ?_
  simp only [Act.put, List.setIfInBounds_toArray, List.set_cons_succ, List.set_cons_zero]
  refine sV (.bool (decide ((100 : Int) < (on : Int)))) (u36) (by kernel_rfl) (by kernel_rfl) ?_
  simp only [Act.put, List.setIfInBounds_toArray, List.set_cons_succ, List.set_cons_zero]
  rw [HD1.out]
  refine sV (.bool false) (u36) (by kernel_rfl) (by kernel_rfl) ?_
  simp only [Act.put, List.setIfInBounds_toArray, List.set_cons_succ, List.set_cons_zero]
  refine sV (.bool false) (u36) (by kernel_rfl) (by kernel_rfl) ?_
  simp only [Act.put, List.setIfInBounds_toArray, List.set_cons_succ, List.set_cons_zero]
  refine sV (.slice pa pn pc) (u36) (by kernel_rfl) (by kernel_rfl) ?_
  simp only [Act.put, List.setIfInBounds_toArray, List.set_cons_succ, List.set_cons_zero]
  refine sV (.int .i64 (pn : Int)) (u36) (by kernel_rfl) (by kernel_rfl) ?_
  simp only [Act.put, List.setIfInBounds_toArray, List.set_cons_succ, List.set_cons_zero]
  refine sV (.bool (decide ((100 : Int) < (pn : Int)))) (u36) (by kernel_rfl) (by kernel_rfl) ?_
  simp only [Act.put, List.setIfInBounds_toArray, List.set_cons_succ, List.set_cons_zero]
  rw [HD2.out]
  refine sV (.bool false) (u36) (by kernel_rfl) (by kernel_rfl) ?_
  simp only [Act.put, List.setIfInBounds_toArray, List.set_cons_succ, List.set_cons_zero]
  refine sV (.bool false) (u36) (by kernel_rfl) (by kernel_rfl) ?_
  simp only [Act.put, List.setIfInBounds_toArray, List.set_cons_succ, List.set_cons_zero]
  refine sL (by kernel_rfl) _ _ (by rfl) _ (by kernel_rfl) (H37.out.all (box TC X (ccl ht h (.slice a n c))) (by simp)).1 _ _ UC rfl (by kernel_rfl) (by rw [ccl_len _ _ _ HL.out]) ?_
  simp only [Act.put, List.setIfInBounds_toArray, List.set_cons_succ, List.set_cons_zero]
  refine sC (R := fun w' => Below u36.heap.size u36 w') (v := .int .i64 0) (by kernel_rfl) (by kernel_rfl) (HCK.out u36 H37.out.low) ?_
  rintro u38 hb
  simp only [Act.put, List.setIfInBounds_toArray, List.set_cons_succ, List.set_cons_zero]
  have H39 := WirS.hide (H37.out.more hb)
  clear H37
  clear hb
  refine sV (.bool false) (u38) (by kernel_rfl) (by kernel_rfl) ?_
  simp only [Act.put, List.setIfInBounds_toArray, List.set_cons_succ, List.set_cons_zero]
  refine sV (.bool false) (u38) (by kernel_rfl) (by kernel_rfl) ?_
  simp only [Act.put, List.setIfInBounds_toArray, List.set_cons_succ, List.set_cons_zero]
  go_upto_region 4 with fail
  refine wp_region_lit ?_
  refine sL (by kernel_rfl) _ _ (by rfl) _ (by kernel_rfl) (H39.out.all (box TC X (ccl ht h (.slice a n c))) (by simp)).1 _ _ UC rfl (by kernel_rfl) (by rw [ccl_len _ _ _ HL.out]) ?_
  simp only [Act.put, List.setIfInBounds_toArray, List.set_cons_succ, List.set_cons_zero]
  refine sCx (by kernel_rfl) (by kernel_rfl) (HCP.out u38 H39.out.low) ?_
  rintro e u40 ⟨ca, cc, rfl, ho, hnb, hb⟩
  refine ⟨_, rfl, ?_⟩
  simp only [Act.put, List.setIfInBounds_toArray, List.set_cons_succ, List.set_cons_zero]
  have H41 := WirS.hide (bag_ownt H39.out ho hnb hb)
  clear H39
  clear ho hnb hb
  refine sV (.slice ca n cc) u40 (by kernel_rfl) (field_ccl (x := .tmp 40) ht h ca n cc HL.out (by kernel_rfl) (by kernel_rfl) u40) ?_
  simp only [Act.put, List.setIfInBounds_toArray, List.set_cons_succ, List.set_cons_zero]
  go_upto_region 5 with fail
  refine wp_region_lit ?_
  refine sV (.pointer (some ⟨X, 0, none⟩)) (u40) (by kernel_rfl) (by kernel_rfl) ?_
  simp only [Act.put, List.setIfInBounds_toArray, List.set_cons_succ, List.set_cons_zero]
  refine sP (by kernel_rfl) _ _ (by rfl) ⟨X, 0, none⟩ (by kernel_rfl) (.int .i64 ht) ((show At u40 X TC (ccl ht h (.slice a n c)) from (H41.out.all (box TC X (ccl ht h (.slice a n c))) (by simp)).1).cell 0) (by kernel_rfl) ?_
  simp only [Act.put, List.setIfInBounds_toArray, List.set_cons_succ, List.set_cons_zero]
  refine sV (.pointer (some ⟨X, 1, none⟩)) (u40) (by kernel_rfl) (by kernel_rfl) ?_
  simp only [Act.put, List.setIfInBounds_toArray, List.set_cons_succ, List.set_cons_zero]
  refine wpList_load_mid' (by kernel_rfl) _ _ (by rfl) X 1 (by kernel_rfl) (b8 h) _ (range_hash (show At u40 X TC (ccl ht h (.slice a n c)) from (H41.out.all (box TC X (ccl ht h (.slice a n c))) (by simp)).1)) Try.underlying34 (by rfl) (by rw [b8_len, HL.out]; kernel_rfl) ?_
  simp only [Act.put, List.setIfInBounds_toArray, List.set_cons_succ, List.set_cons_zero]
  refine sV (.agg (ccl ht h (.slice none 0 0)).toArray) u40 (by kernel_rfl) (build_ch (x := .tmp 43) (y := .tmp 45) ht h HL.out (by kernel_rfl) (by kernel_rfl) (by kernel_rfl) u40) ?_
  simp only [Act.put, List.setIfInBounds_toArray, List.set_cons_succ, List.set_cons_zero]
  refine sV (.pointer (some ⟨u40.heap.size, 0, none⟩)) (u40.alloc (.cells zcm.toArray TC)) (by kernel_rfl) (by kernel_rfl) ?_
  simp only [Act.put, List.setIfInBounds_toArray, List.set_cons_succ, List.set_cons_zero]
  obtain ⟨N, eN⟩ : ∃ A, u40.heap.size = A := ⟨_, rfl⟩
  have hbN := bag_box (T := TC) (cs := zcm) (X := N) H41.out eN.symm (w' := u40.alloc (.cells zcm.toArray TC)) (by rw [← eN]; exact At.new _ _ _) (Below.alloc (Below.refl _ _) (Nat.le_refl _) _)
  rw [eN]
  clear eN
  generalize World.alloc u40 _ = u42 at *
  have H43 := WirS.hide (hbN)
  clear H41
  clear hbN
  refine stepStore (by rfl) _ _ _ (by rfl) N (ccl ht h (.slice none 0 0)) (by kernel_rfl) (by kernel_rfl) H43.out.head 34 (by kernel_rfl) (by rfl) (ccl_len _ _ _ HL.out) (one_ccl _ _ _ _ _) ?_
  simp only [Act.put]
  have H45 := WirS.hide (bag_row H43.out (ccl ht h (.slice none 0 0)))
  clear H43
  generalize World.setRow u42 N _ = u44 at *
  go_upto_region 6 with fail
  go_cut [10, 11, 12] (fun p q r wx => ∃ (A B C : Nat), p = .pointer (some ⟨A, 0, none⟩) ∧ q = .pointer (some ⟨B, 0, none⟩) ∧ r = .pointer (some ⟨C, 0, none⟩) ∧ Bag w wx [box TC A (ccl ht h (.slice none 0 0)), box TC B (ccl ht h (.slice none 0 0)), box TC C (ccl ht h (.slice none 0 0)), ownt (.slice ca n cc) vs, box TC X (ccl ht h (.slice a n c)), box TC N (ccl ht h (.slice none 0 0))])
  case first =>
    have HZ : Hid (Bag w u44.drew [box TC N (ccl ht h (.slice none 0 0)), ownt (.slice ca n cc) vs, box TC X (ccl ht h (.slice a n c))]) := WirS.hide (H45.out.more (below_drewN (Below.refl _ _) 1))
    clear H45
    refine wp_region_noPanic ?_
    refine wp_region_held_drew (S := (fun U => U.rangeAt N 0 (ccl ht h (.slice none 0 0)))) (by kernel_rfl) (range_from (HZ.out.all (box TC N (ccl ht h (.slice none 0 0))) (by simp)).1) (fun hHeld => ?_)
    generalize World.drew u44 = z0 at *
    refine' wpAnyH_take (i := 0) (oi := _) (v := .agg ((ccl ht h (.slice none 0 0))).toArray) rfl (by kernel_rfl) (by kernel_rfl) (by kernel_rfl) (fun _ _ _ h => h) (yieldsIf_load_mid (by kernel_rfl) TC (.tmp 9) (by kernel_rfl) N 0 (by kernel_rfl) ((ccl ht h (.slice none 0 0))) _ (fun _ h => h) UC (by kernel_rfl) ((by rw [ccl_len _ _ _ HL.out]; kernel_rfl))) (by assumption) ?rest0
    case rest0 =>
    try simp only [List.getElem_toArray, List.getElem_cons_zero, Act.put, List.setIfInBounds_toArray, List.set_cons_zero, List.set_cons_succ]
    refine' wpAnyH_take (i := 1) (oi := _) (v := .agg ((ccl ht h (.slice none 0 0))).toArray) rfl (by kernel_rfl) (by kernel_rfl) (by kernel_rfl) (fun _ _ _ h => h) (yieldsIf_load_mid (by kernel_rfl) TC (.tmp 9) (by kernel_rfl) N 0 (by kernel_rfl) ((ccl ht h (.slice none 0 0))) _ (fun _ h => h) UC (by kernel_rfl) ((by rw [ccl_len _ _ _ HL.out]; kernel_rfl))) (by assumption) ?rest1
    case rest1 =>
    try simp only [List.getElem_toArray, List.getElem_cons_succ, List.getElem_cons_zero, Act.put, List.setIfInBounds_toArray, List.set_cons_zero, List.set_cons_succ]
    refine' wpAnyH_take (i := 2) (oi := _) (v := .agg ((ccl ht h (.slice none 0 0))).toArray) rfl (by kernel_rfl) (by kernel_rfl) (by kernel_rfl) (fun _ _ _ h => h) (yieldsIf_load_mid (by kernel_rfl) TC (.tmp 9) (by kernel_rfl) N 0 (by kernel_rfl) ((ccl ht h (.slice none 0 0))) _ (fun _ h => h) UC (by kernel_rfl) ((by rw [ccl_len _ _ _ HL.out]; kernel_rfl))) (by assumption) ?rest2
    case rest2 =>
    try simp only [List.getElem_toArray, List.getElem_cons_succ, List.getElem_cons_zero, Act.put, List.setIfInBounds_toArray, List.set_cons_zero, List.set_cons_succ]
    refine wpAnyH_ready (rs := [3, 4, 5]) (by kernel_rfl) (by simp) ?_
    refine AllReadyH.cons rfl (fun K hK => ?_) (AllReadyH.cons rfl (fun K hK => ?_) (AllReadyH.cons rfl (fun K hK => ?_) AllReadyH.nil))
    · rw [if_pos (by kernel_rfl)]
      refine wp_value (w' := z0.alloc (.cells zcm.toArray TC)) (.pointer (some ⟨z0.heap.size, 0, none⟩)) (by kernel_rfl) ?_
      try simp only [List.getElem_toArray, List.getElem_cons_succ, List.getElem_cons_zero, Act.put, List.setIfInBounds_toArray, List.set_cons_zero, List.set_cons_succ]
      obtain ⟨A, eA⟩ : ∃ A, z0.heap.size = A := ⟨_, rfl⟩
      have hbA := bag_box (T := TC) (cs := zcm) (X := A) HZ.out eA.symm (w' := z0.alloc (.cells zcm.toArray TC)) (by rw [← eA]; exact At.new _ _ _) (Below.alloc (Below.refl _ _) (Nat.le_refl _) _)
      rw [eA]
      clear eA
      generalize World.alloc z0 _ = z1 at *
      have B1 := WirS.hide hbA
      clear hbA HZ
      refine hK.out _ _ (range_from (B1.out.all (box TC N (ccl ht h (.slice none 0 0))) (by simp)).1) (fun hHeld => ?_)
      clear hK K
      refine wpAnyH_ready (rs := [4, 5]) (by kernel_rfl) (by simp) ?_
      refine AllReadyH.cons rfl (fun K hK => ?_) (AllReadyH.cons rfl (fun K hK => ?_) AllReadyH.nil)
      · rw [if_pos (by kernel_rfl)]
        refine wp_value (w' := z1.alloc (.cells zcm.toArray TC)) (.pointer (some ⟨z1.heap.size, 0, none⟩)) (by kernel_rfl) ?_
        try simp only [List.getElem_toArray, List.getElem_cons_succ, List.getElem_cons_zero, Act.put, List.setIfInBounds_toArray, List.set_cons_zero, List.set_cons_succ]
        obtain ⟨B, eB⟩ : ∃ A, z1.heap.size = A := ⟨_, rfl⟩
        have hbB := bag_box (T := TC) (cs := zcm) (X := B) B1.out eB.symm (w' := z1.alloc (.cells zcm.toArray TC)) (by rw [← eB]; exact At.new _ _ _) (Below.alloc (Below.refl _ _) (Nat.le_refl _) _)
        rw [eB]
        clear eB
        generalize World.alloc z1 _ = z2 at *
        have B2 := WirS.hide hbB
        clear hbB B1
        refine hK.out _ _ (range_from (B2.out.all (box TC N (ccl ht h (.slice none 0 0))) (by simp)).1) (fun hHeld => ?_)
        clear hK K
        refine wpAnyH_ready (rs := [5]) (by kernel_rfl) (by simp) ?_
        refine AllReadyH.cons rfl (fun K hK => ?_) AllReadyH.nil
        rw [if_pos (by kernel_rfl)]
        refine wp_value (w' := z2.alloc (.cells zcm.toArray TC)) (.pointer (some ⟨z2.heap.size, 0, none⟩)) (by kernel_rfl) ?_
        try simp only [List.getElem_toArray, List.getElem_cons_succ, List.getElem_cons_zero, Act.put, List.setIfInBounds_toArray, List.set_cons_zero, List.set_cons_succ]
        obtain ⟨C, eC⟩ : ∃ A, z2.heap.size = A := ⟨_, rfl⟩
        have hbC := bag_box (T := TC) (cs := zcm) (X := C) B2.out eC.symm (w' := z2.alloc (.cells zcm.toArray TC)) (by rw [← eC]; exact At.new _ _ _) (Below.alloc (Below.refl _ _) (Nat.le_refl _) _)
        rw [eC]
        clear eC
        generalize World.alloc z2 _ = z3 at *
        have B3 := WirS.hide hbC
        clear hbC B2
        refine hK.out _ _ (range_from (B3.out.all (box TC N (ccl ht h (.slice none 0 0))) (by simp)).1) (fun hHeld => ?_)
        clear hK K
        refine wpAnyH_ready (rs := [6]) (by kernel_rfl) (by simp) ?_
        refine AllReadyH.cons rfl (fun K hK => ?_) AllReadyH.nil
        rw [if_pos (by kernel_rfl)]
        have G6a := WirS.hide (B3.out.perm (show [box TC C zcm, box TC B zcm, box TC A zcm, box TC N (ccl ht h (.slice none 0 0)), ownt (.slice ca n cc) vs, box TC X (ccl ht h (.slice a n c))].Perm [box TC A zcm, box TC C zcm, box TC B zcm, box TC N (ccl ht h (.slice none 0 0)), ownt (.slice ca n cc) vs, box TC X (ccl ht h (.slice a n c))] from ((List.perm_middle (l₁ := [box TC C zcm, box TC B zcm])).trans (.cons _ ((List.perm_middle (l₁ := [])).trans (.cons _ ((List.perm_middle (l₁ := [])).trans (.cons _ ((List.perm_middle (l₁ := [])).trans (.cons _ ((List.perm_middle (l₁ := [])).trans (.cons _ ((List.perm_middle (l₁ := [])).trans (.cons _ (.refl _)))))))))))))))
        clear B3
        refine wp_store_row TC (.tmp 10) (.tmp 47) (by kernel_rfl) A (ccl ht h (.slice none 0 0)).toArray (by kernel_rfl) (by kernel_rfl) TC zcm.toArray G6a.out.head (by rw [List.size_toArray, ccl_len _ _ _ HL.out]; kernel_rfl) (by rw [List.size_toArray, List.size_toArray, ccl_len _ _ _ HL.out]; rfl) (one_ccl _ _ _ _ _) ?_
        have G6 := WirS.hide (bag_row G6a.out (ccl ht h (.slice none 0 0)))
        clear G6a
        refine hK.out _ _ (range_from (G6.out.all (box TC N (ccl ht h (.slice none 0 0))) (by simp)).1) (fun hHeld => ?_)
        clear hK K
        try simp only [Act.put]
        generalize World.setRow z3 A _ = y6 at *
        refine wpAnyH_ready (rs := [7]) (by kernel_rfl) (by simp) ?_
        refine AllReadyH.cons rfl (fun K hK => ?_) AllReadyH.nil
        rw [if_pos (by kernel_rfl)]
        have G7a := WirS.hide (G6.out.perm (show [box TC A (ccl ht h (.slice none 0 0)), box TC C zcm, box TC B zcm, box TC N (ccl ht h (.slice none 0 0)), ownt (.slice ca n cc) vs, box TC X (ccl ht h (.slice a n c))].Perm [box TC B zcm, box TC A (ccl ht h (.slice none 0 0)), box TC C zcm, box TC N (ccl ht h (.slice none 0 0)), ownt (.slice ca n cc) vs, box TC X (ccl ht h (.slice a n c))] from ((List.perm_middle (l₁ := [box TC A (ccl ht h (.slice none 0 0)), box TC C zcm])).trans (.cons _ ((List.perm_middle (l₁ := [])).trans (.cons _ ((List.perm_middle (l₁ := [])).trans (.cons _ ((List.perm_middle (l₁ := [])).trans (.cons _ ((List.perm_middle (l₁ := [])).trans (.cons _ ((List.perm_middle (l₁ := [])).trans (.cons _ (.refl _)))))))))))))))
        clear G6
        refine wp_store_row TC (.tmp 11) (.tmp 48) (by kernel_rfl) B (ccl ht h (.slice none 0 0)).toArray (by kernel_rfl) (by kernel_rfl) TC zcm.toArray G7a.out.head (by rw [List.size_toArray, ccl_len _ _ _ HL.out]; kernel_rfl) (by rw [List.size_toArray, List.size_toArray, ccl_len _ _ _ HL.out]; rfl) (one_ccl _ _ _ _ _) ?_
        have G7 := WirS.hide (bag_row G7a.out (ccl ht h (.slice none 0 0)))
        clear G7a
        refine hK.out _ _ (range_from (G7.out.all (box TC N (ccl ht h (.slice none 0 0))) (by simp)).1) (fun hHeld => ?_)
        clear hK K
        try simp only [Act.put]
        generalize World.setRow y6 B _ = y7 at *
        refine wpAnyH_ready (rs := [8]) (by kernel_rfl) (by simp) ?_
        refine AllReadyH.cons rfl (fun K hK => ?_) AllReadyH.nil
        rw [if_pos (by kernel_rfl)]
        have G8a := WirS.hide (G7.out.perm (show [box TC B (ccl ht h (.slice none 0 0)), box TC A (ccl ht h (.slice none 0 0)), box TC C zcm, box TC N (ccl ht h (.slice none 0 0)), ownt (.slice ca n cc) vs, box TC X (ccl ht h (.slice a n c))].Perm [box TC C zcm, box TC B (ccl ht h (.slice none 0 0)), box TC A (ccl ht h (.slice none 0 0)), box TC N (ccl ht h (.slice none 0 0)), ownt (.slice ca n cc) vs, box TC X (ccl ht h (.slice a n c))] from ((List.perm_middle (l₁ := [box TC B (ccl ht h (.slice none 0 0)), box TC A (ccl ht h (.slice none 0 0))])).trans (.cons _ ((List.perm_middle (l₁ := [])).trans (.cons _ ((List.perm_middle (l₁ := [])).trans (.cons _ ((List.perm_middle (l₁ := [])).trans (.cons _ ((List.perm_middle (l₁ := [])).trans (.cons _ ((List.perm_middle (l₁ := [])).trans (.cons _ (.refl _)))))))))))))))
        clear G7
        refine wp_store_row TC (.tmp 12) (.tmp 49) (by kernel_rfl) C (ccl ht h (.slice none 0 0)).toArray (by kernel_rfl) (by kernel_rfl) TC zcm.toArray G8a.out.head (by rw [List.size_toArray, ccl_len _ _ _ HL.out]; kernel_rfl) (by rw [List.size_toArray, List.size_toArray, ccl_len _ _ _ HL.out]; rfl) (one_ccl _ _ _ _ _) ?_
        have G8 := WirS.hide (bag_row G8a.out (ccl ht h (.slice none 0 0)))
        clear G8a
        refine hK.out _ _ (range_from (G8.out.all (box TC N (ccl ht h (.slice none 0 0))) (by simp)).1) (fun hHeld => ?_)
        clear hK K
        try simp only [Act.put]
        generalize World.setRow y7 C _ = y8 at *
        refine wpAnyH_done (by kernel_rfl) ?_ _
        refine NoPanic.normal ?_
        clear hHeld
        go_wp2_with fail
        go_meet
        exact ⟨A, B, C, rfl, rfl, rfl, G8.out.perm (show [box TC C (ccl ht h (.slice none 0 0)), box TC B (ccl ht h (.slice none 0 0)), box TC A (ccl ht h (.slice none 0 0)), box TC N (ccl ht h (.slice none 0 0)), ownt (.slice ca n cc) vs, box TC X (ccl ht h (.slice a n c))].Perm [box TC A (ccl ht h (.slice none 0 0)), box TC B (ccl ht h (.slice none 0 0)), box TC C (ccl ht h (.slice none 0 0)), ownt (.slice ca n cc) vs, box TC X (ccl ht h (.slice a n c)), box TC N (ccl ht h (.slice none 0 0))] from ((List.perm_middle (l₁ := [box TC C (ccl ht h (.slice none 0 0)), box TC B (ccl ht h (.slice none 0 0))])).trans (.cons _ ((List.perm_middle (l₁ := [box TC C (ccl ht h (.slice none 0 0))])).trans (.cons _ ((List.perm_middle (l₁ := [])).trans (.cons _ ((List.perm_middle (l₁ := [box TC N (ccl ht h (.slice none 0 0))])).trans (.cons _ ((List.perm_middle (l₁ := [box TC N (ccl ht h (.slice none 0 0))])).trans (.cons _ ((List.perm_middle (l₁ := [])).trans (.cons _ (.refl _))))))))))))))⟩
      · rw [if_pos (by kernel_rfl)]
        refine wp_value (w' := z1.alloc (.cells zcm.toArray TC)) (.pointer (some ⟨z1.heap.size, 0, none⟩)) (by kernel_rfl) ?_
        try simp only [List.getElem_toArray, List.getElem_cons_succ, List.getElem_cons_zero, Act.put, List.setIfInBounds_toArray, List.set_cons_zero, List.set_cons_succ]
        obtain ⟨C, eC⟩ : ∃ A, z1.heap.size = A := ⟨_, rfl⟩
        have hbC := bag_box (T := TC) (cs := zcm) (X := C) B1.out eC.symm (w' := z1.alloc (.cells zcm.toArray TC)) (by rw [← eC]; exact At.new _ _ _) (Below.alloc (Below.refl _ _) (Nat.le_refl _) _)
        rw [eC]
        clear eC
        generalize World.alloc z1 _ = z2 at *
        have B2 := WirS.hide hbC
        clear hbC B1
        refine hK.out _ _ (range_from (B2.out.all (box TC N (ccl ht h (.slice none 0 0))) (by simp)).1) (fun hHeld => ?_)
        clear hK K
        refine wpAnyH_ready (rs := [4]) (by kernel_rfl) (by simp) ?_
        refine AllReadyH.cons rfl (fun K hK => ?_) AllReadyH.nil
        rw [if_pos (by kernel_rfl)]
        refine wp_value (w' := z2.alloc (.cells zcm.toArray TC)) (.pointer (some ⟨z2.heap.size, 0, none⟩)) (by kernel_rfl) ?_
        try simp only [List.getElem_toArray, List.getElem_cons_succ, List.getElem_cons_zero, Act.put, List.setIfInBounds_toArray, List.set_cons_zero, List.set_cons_succ]
        obtain ⟨B, eB⟩ : ∃ A, z2.heap.size = A := ⟨_, rfl⟩
        have hbB := bag_box (T := TC) (cs := zcm) (X := B) B2.out eB.symm (w' := z2.alloc (.cells zcm.toArray TC)) (by rw [← eB]; exact At.new _ _ _) (Below.alloc (Below.refl _ _) (Nat.le_refl _) _)
        rw [eB]
        clear eB
        generalize World.alloc z2 _ = z3 at *
        have B3 := WirS.hide hbB
        clear hbB B2
        refine hK.out _ _ (range_from (B3.out.all (box TC N (ccl ht h (.slice none 0 0))) (by simp)).1) (fun hHeld => ?_)
        clear hK K
        refine wpAnyH_ready (rs := [6]) (by kernel_rfl) (by simp) ?_
        refine AllReadyH.cons rfl (fun K hK => ?_) AllReadyH.nil
        rw [if_pos (by kernel_rfl)]
        have G6a := WirS.hide (B3.out.perm (show [box TC B zcm, box TC C zcm, box TC A zcm, box TC N (ccl ht h (.slice none 0 0)), ownt (.slice ca n cc) vs, box TC X (ccl ht h (.slice a n c))].Perm [box TC A zcm, box TC B zcm, box TC C zcm, box TC N (ccl ht h (.slice none 0 0)), ownt (.slice ca n cc) vs, box TC X (ccl ht h (.slice a n c))] from ((List.perm_middle (l₁ := [box TC B zcm, box TC C zcm])).trans (.cons _ ((List.perm_middle (l₁ := [])).trans (.cons _ ((List.perm_middle (l₁ := [])).trans (.cons _ ((List.perm_middle (l₁ := [])).trans (.cons _ ((List.perm_middle (l₁ := [])).trans (.cons _ ((List.perm_middle (l₁ := [])).trans (.cons _ (.refl _)))))))))))))))
        clear B3
        refine wp_store_row TC (.tmp 10) (.tmp 47) (by kernel_rfl) A (ccl ht h (.slice none 0 0)).toArray (by kernel_rfl) (by kernel_rfl) TC zcm.toArray G6a.out.head (by rw [List.size_toArray, ccl_len _ _ _ HL.out]; kernel_rfl) (by rw [List.size_toArray, List.size_toArray, ccl_len _ _ _ HL.out]; rfl) (one_ccl _ _ _ _ _) ?_
        have G6 := WirS.hide (bag_row G6a.out (ccl ht h (.slice none 0 0)))
        clear G6a
        refine hK.out _ _ (range_from (G6.out.all (box TC N (ccl ht h (.slice none 0 0))) (by simp)).1) (fun hHeld => ?_)
        clear hK K
        try simp only [Act.put]
        generalize World.setRow z3 A _ = y6 at *
        refine wpAnyH_ready (rs := [7]) (by kernel_rfl) (by simp) ?_
        refine AllReadyH.cons rfl (fun K hK => ?_) AllReadyH.nil
        rw [if_pos (by kernel_rfl)]
        have G7a := WirS.hide (G6.out.perm (show [box TC A (ccl ht h (.slice none 0 0)), box TC B zcm, box TC C zcm, box TC N (ccl ht h (.slice none 0 0)), ownt (.slice ca n cc) vs, box TC X (ccl ht h (.slice a n c))].Perm [box TC B zcm, box TC A (ccl ht h (.slice none 0 0)), box TC C zcm, box TC N (ccl ht h (.slice none 0 0)), ownt (.slice ca n cc) vs, box TC X (ccl ht h (.slice a n c))] from ((List.perm_middle (l₁ := [box TC A (ccl ht h (.slice none 0 0))])).trans (.cons _ ((List.perm_middle (l₁ := [])).trans (.cons _ ((List.perm_middle (l₁ := [])).trans (.cons _ ((List.perm_middle (l₁ := [])).trans (.cons _ ((List.perm_middle (l₁ := [])).trans (.cons _ ((List.perm_middle (l₁ := [])).trans (.cons _ (.refl _)))))))))))))))
        clear G6
        refine wp_store_row TC (.tmp 11) (.tmp 48) (by kernel_rfl) B (ccl ht h (.slice none 0 0)).toArray (by kernel_rfl) (by kernel_rfl) TC zcm.toArray G7a.out.head (by rw [List.size_toArray, ccl_len _ _ _ HL.out]; kernel_rfl) (by rw [List.size_toArray, List.size_toArray, ccl_len _ _ _ HL.out]; rfl) (one_ccl _ _ _ _ _) ?_
        have G7 := WirS.hide (bag_row G7a.out (ccl ht h (.slice none 0 0)))
        clear G7a
        refine hK.out _ _ (range_from (G7.out.all (box TC N (ccl ht h (.slice none 0 0))) (by simp)).1) (fun hHeld => ?_)
        clear hK K
        try simp only [Act.put]
        generalize World.setRow y6 B _ = y7 at *
        refine wpAnyH_ready (rs := [8]) (by kernel_rfl) (by simp) ?_
        refine AllReadyH.cons rfl (fun K hK => ?_) AllReadyH.nil
        rw [if_pos (by kernel_rfl)]
        have G8a := WirS.hide (G7.out.perm (show [box TC B (ccl ht h (.slice none 0 0)), box TC A (ccl ht h (.slice none 0 0)), box TC C zcm, box TC N (ccl ht h (.slice none 0 0)), ownt (.slice ca n cc) vs, box TC X (ccl ht h (.slice a n c))].Perm [box TC C zcm, box TC B (ccl ht h (.slice none 0 0)), box TC A (ccl ht h (.slice none 0 0)), box TC N (ccl ht h (.slice none 0 0)), ownt (.slice ca n cc) vs, box TC X (ccl ht h (.slice a n c))] from ((List.perm_middle (l₁ := [box TC B (ccl ht h (.slice none 0 0)), box TC A (ccl ht h (.slice none 0 0))])).trans (.cons _ ((List.perm_middle (l₁ := [])).trans (.cons _ ((List.perm_middle (l₁ := [])).trans (.cons _ ((List.perm_middle (l₁ := [])).trans (.cons _ ((List.perm_middle (l₁ := [])).trans (.cons _ ((List.perm_middle (l₁ := [])).trans (.cons _ (.refl _)))))))))))))))
        clear G7
        refine wp_store_row TC (.tmp 12) (.tmp 49) (by kernel_rfl) C (ccl ht h (.slice none 0 0)).toArray (by kernel_rfl) (by kernel_rfl) TC zcm.toArray G8a.out.head (by rw [List.size_toArray, ccl_len _ _ _ HL.out]; kernel_rfl) (by rw [List.size_toArray, List.size_toArray, ccl_len _ _ _ HL.out]; rfl) (one_ccl _ _ _ _ _) ?_
        have G8 := WirS.hide (bag_row G8a.out (ccl ht h (.slice none 0 0)))
        clear G8a
        refine hK.out _ _ (range_from (G8.out.all (box TC N (ccl ht h (.slice none 0 0))) (by simp)).1) (fun hHeld => ?_)
        clear hK K
        try simp only [Act.put]
        generalize World.setRow y7 C _ = y8 at *
        refine wpAnyH_done (by kernel_rfl) ?_ _
        refine NoPanic.normal ?_
        clear hHeld
        go_wp2_with fail
        go_meet
        exact ⟨A, B, C, rfl, rfl, rfl, G8.out.perm (show [box TC C (ccl ht h (.slice none 0 0)), box TC B (ccl ht h (.slice none 0 0)), box TC A (ccl ht h (.slice none 0 0)), box TC N (ccl ht h (.slice none 0 0)), ownt (.slice ca n cc) vs, box TC X (ccl ht h (.slice a n c))].Perm [box TC A (ccl ht h (.slice none 0 0)), box TC B (ccl ht h (.slice none 0 0)), box TC C (ccl ht h (.slice none 0 0)), ownt (.slice ca n cc) vs, box TC X (ccl ht h (.slice a n c)), box TC N (ccl ht h (.slice none 0 0))] from ((List.perm_middle (l₁ := [box TC C (ccl ht h (.slice none 0 0)), box TC B (ccl ht h (.slice none 0 0))])).trans (.cons _ ((List.perm_middle (l₁ := [box TC C (ccl ht h (.slice none 0 0))])).trans (.cons _ ((List.perm_middle (l₁ := [])).trans (.cons _ ((List.perm_middle (l₁ := [box TC N (ccl ht h (.slice none 0 0))])).trans (.cons _ ((List.perm_middle (l₁ := [box TC N (ccl ht h (.slice none 0 0))])).trans (.cons _ ((List.perm_middle (l₁ := [])).trans (.cons _ (.refl _))))))))))))))⟩
    · rw [if_pos (by kernel_rfl)]
      refine wp_value (w' := z0.alloc (.cells zcm.toArray TC)) (.pointer (some ⟨z0.heap.size, 0, none⟩)) (by kernel_rfl) ?_
      try simp only [List.getElem_toArray, List.getElem_cons_succ, List.getElem_cons_zero, Act.put, List.setIfInBounds_toArray, List.set_cons_zero, List.set_cons_succ]
      obtain ⟨B, eB⟩ : ∃ A, z0.heap.size = A := ⟨_, rfl⟩
      have hbB := bag_box (T := TC) (cs := zcm) (X := B) HZ.out eB.symm (w' := z0.alloc (.cells zcm.toArray TC)) (by rw [← eB]; exact At.new _ _ _) (Below.alloc (Below.refl _ _) (Nat.le_refl _) _)
      rw [eB]
      clear eB
      generalize World.alloc z0 _ = z1 at *
      have B1 := WirS.hide hbB
      clear hbB HZ
      refine hK.out _ _ (range_from (B1.out.all (box TC N (ccl ht h (.slice none 0 0))) (by simp)).1) (fun hHeld => ?_)
      clear hK K
      refine wpAnyH_ready (rs := [3, 5]) (by kernel_rfl) (by simp) ?_
      refine AllReadyH.cons rfl (fun K hK => ?_) (AllReadyH.cons rfl (fun K hK => ?_) AllReadyH.nil)
      · rw [if_pos (by kernel_rfl)]
        refine wp_value (w' := z1.alloc (.cells zcm.toArray TC)) (.pointer (some ⟨z1.heap.size, 0, none⟩)) (by kernel_rfl) ?_
        try simp only [List.getElem_toArray, List.getElem_cons_succ, List.getElem_cons_zero, Act.put, List.setIfInBounds_toArray, List.set_cons_zero, List.set_cons_succ]
        obtain ⟨A, eA⟩ : ∃ A, z1.heap.size = A := ⟨_, rfl⟩
        have hbA := bag_box (T := TC) (cs := zcm) (X := A) B1.out eA.symm (w' := z1.alloc (.cells zcm.toArray TC)) (by rw [← eA]; exact At.new _ _ _) (Below.alloc (Below.refl _ _) (Nat.le_refl _) _)
        rw [eA]
        clear eA
        generalize World.alloc z1 _ = z2 at *
        have B2 := WirS.hide hbA
        clear hbA B1
        refine hK.out _ _ (range_from (B2.out.all (box TC N (ccl ht h (.slice none 0 0))) (by simp)).1) (fun hHeld => ?_)
        clear hK K
        refine wpAnyH_ready (rs := [5]) (by kernel_rfl) (by simp) ?_
        refine AllReadyH.cons rfl (fun K hK => ?_) AllReadyH.nil
        rw [if_pos (by kernel_rfl)]
        refine wp_value (w' := z2.alloc (.cells zcm.toArray TC)) (.pointer (some ⟨z2.heap.size, 0, none⟩)) (by kernel_rfl) ?_
        try simp only [List.getElem_toArray, List.getElem_cons_succ, List.getElem_cons_zero, Act.put, List.setIfInBounds_toArray, List.set_cons_zero, List.set_cons_succ]
        obtain ⟨C, eC⟩ : ∃ A, z2.heap.size = A := ⟨_, rfl⟩
        have hbC := bag_box (T := TC) (cs := zcm) (X := C) B2.out eC.symm (w' := z2.alloc (.cells zcm.toArray TC)) (by rw [← eC]; exact At.new _ _ _) (Below.alloc (Below.refl _ _) (Nat.le_refl _) _)
        rw [eC]
        clear eC
        generalize World.alloc z2 _ = z3 at *
        have B3 := WirS.hide hbC
        clear hbC B2
        refine hK.out _ _ (range_from (B3.out.all (box TC N (ccl ht h (.slice none 0 0))) (by simp)).1) (fun hHeld => ?_)
        clear hK K
        refine wpAnyH_ready (rs := [6]) (by kernel_rfl) (by simp) ?_
        refine AllReadyH.cons rfl (fun K hK => ?_) AllReadyH.nil
        rw [if_pos (by kernel_rfl)]
        have G6a := WirS.hide (B3.out.perm (show [box TC C zcm, box TC A zcm, box TC B zcm, box TC N (ccl ht h (.slice none 0 0)), ownt (.slice ca n cc) vs, box TC X (ccl ht h (.slice a n c))].Perm [box TC A zcm, box TC C zcm, box TC B zcm, box TC N (ccl ht h (.slice none 0 0)), ownt (.slice ca n cc) vs, box TC X (ccl ht h (.slice a n c))] from ((List.perm_middle (l₁ := [box TC C zcm])).trans (.cons _ ((List.perm_middle (l₁ := [])).trans (.cons _ ((List.perm_middle (l₁ := [])).trans (.cons _ ((List.perm_middle (l₁ := [])).trans (.cons _ ((List.perm_middle (l₁ := [])).trans (.cons _ ((List.perm_middle (l₁ := [])).trans (.cons _ (.refl _)))))))))))))))
        clear B3
        refine wp_store_row TC (.tmp 10) (.tmp 47) (by kernel_rfl) A (ccl ht h (.slice none 0 0)).toArray (by kernel_rfl) (by kernel_rfl) TC zcm.toArray G6a.out.head (by rw [List.size_toArray, ccl_len _ _ _ HL.out]; kernel_rfl) (by rw [List.size_toArray, List.size_toArray, ccl_len _ _ _ HL.out]; rfl) (one_ccl _ _ _ _ _) ?_
        have G6 := WirS.hide (bag_row G6a.out (ccl ht h (.slice none 0 0)))
        clear G6a
        refine hK.out _ _ (range_from (G6.out.all (box TC N (ccl ht h (.slice none 0 0))) (by simp)).1) (fun hHeld => ?_)
        clear hK K
        try simp only [Act.put]
        generalize World.setRow z3 A _ = y6 at *
        refine wpAnyH_ready (rs := [7]) (by kernel_rfl) (by simp) ?_
        refine AllReadyH.cons rfl (fun K hK => ?_) AllReadyH.nil
        rw [if_pos (by kernel_rfl)]
        have G7a := WirS.hide (G6.out.perm (show [box TC A (ccl ht h (.slice none 0 0)), box TC C zcm, box TC B zcm, box TC N (ccl ht h (.slice none 0 0)), ownt (.slice ca n cc) vs, box TC X (ccl ht h (.slice a n c))].Perm [box TC B zcm, box TC A (ccl ht h (.slice none 0 0)), box TC C zcm, box TC N (ccl ht h (.slice none 0 0)), ownt (.slice ca n cc) vs, box TC X (ccl ht h (.slice a n c))] from ((List.perm_middle (l₁ := [box TC A (ccl ht h (.slice none 0 0)), box TC C zcm])).trans (.cons _ ((List.perm_middle (l₁ := [])).trans (.cons _ ((List.perm_middle (l₁ := [])).trans (.cons _ ((List.perm_middle (l₁ := [])).trans (.cons _ ((List.perm_middle (l₁ := [])).trans (.cons _ ((List.perm_middle (l₁ := [])).trans (.cons _ (.refl _)))))))))))))))
        clear G6
        refine wp_store_row TC (.tmp 11) (.tmp 48) (by kernel_rfl) B (ccl ht h (.slice none 0 0)).toArray (by kernel_rfl) (by kernel_rfl) TC zcm.toArray G7a.out.head (by rw [List.size_toArray, ccl_len _ _ _ HL.out]; kernel_rfl) (by rw [List.size_toArray, List.size_toArray, ccl_len _ _ _ HL.out]; rfl) (one_ccl _ _ _ _ _) ?_
        have G7 := WirS.hide (bag_row G7a.out (ccl ht h (.slice none 0 0)))
        clear G7a
        refine hK.out _ _ (range_from (G7.out.all (box TC N (ccl ht h (.slice none 0 0))) (by simp)).1) (fun hHeld => ?_)
        clear hK K
        try simp only [Act.put]
        generalize World.setRow y6 B _ = y7 at *
        refine wpAnyH_ready (rs := [8]) (by kernel_rfl) (by simp) ?_
        refine AllReadyH.cons rfl (fun K hK => ?_) AllReadyH.nil
        rw [if_pos (by kernel_rfl)]
        have G8a := WirS.hide (G7.out.perm (show [box TC B (ccl ht h (.slice none 0 0)), box TC A (ccl ht h (.slice none 0 0)), box TC C zcm, box TC N (ccl ht h (.slice none 0 0)), ownt (.slice ca n cc) vs, box TC X (ccl ht h (.slice a n c))].Perm [box TC C zcm, box TC B (ccl ht h (.slice none 0 0)), box TC A (ccl ht h (.slice none 0 0)), box TC N (ccl ht h (.slice none 0 0)), ownt (.slice ca n cc) vs, box TC X (ccl ht h (.slice a n c))] from ((List.perm_middle (l₁ := [box TC B (ccl ht h (.slice none 0 0)), box TC A (ccl ht h (.slice none 0 0))])).trans (.cons _ ((List.perm_middle (l₁ := [])).trans (.cons _ ((List.perm_middle (l₁ := [])).trans (.cons _ ((List.perm_middle (l₁ := [])).trans (.cons _ ((List.perm_middle (l₁ := [])).trans (.cons _ ((List.perm_middle (l₁ := [])).trans (.cons _ (.refl _)))))))))))))))
        clear G7
        refine wp_store_row TC (.tmp 12) (.tmp 49) (by kernel_rfl) C (ccl ht h (.slice none 0 0)).toArray (by kernel_rfl) (by kernel_rfl) TC zcm.toArray G8a.out.head (by rw [List.size_toArray, ccl_len _ _ _ HL.out]; kernel_rfl) (by rw [List.size_toArray, List.size_toArray, ccl_len _ _ _ HL.out]; rfl) (one_ccl _ _ _ _ _) ?_
        have G8 := WirS.hide (bag_row G8a.out (ccl ht h (.slice none 0 0)))
        clear G8a
        refine hK.out _ _ (range_from (G8.out.all (box TC N (ccl ht h (.slice none 0 0))) (by simp)).1) (fun hHeld => ?_)
        clear hK K
        try simp only [Act.put]
        generalize World.setRow y7 C _ = y8 at *
        refine wpAnyH_done (by kernel_rfl) ?_ _
        refine NoPanic.normal ?_
        clear hHeld
        go_wp2_with fail
        go_meet
        exact ⟨A, B, C, rfl, rfl, rfl, G8.out.perm (show [box TC C (ccl ht h (.slice none 0 0)), box TC B (ccl ht h (.slice none 0 0)), box TC A (ccl ht h (.slice none 0 0)), box TC N (ccl ht h (.slice none 0 0)), ownt (.slice ca n cc) vs, box TC X (ccl ht h (.slice a n c))].Perm [box TC A (ccl ht h (.slice none 0 0)), box TC B (ccl ht h (.slice none 0 0)), box TC C (ccl ht h (.slice none 0 0)), ownt (.slice ca n cc) vs, box TC X (ccl ht h (.slice a n c)), box TC N (ccl ht h (.slice none 0 0))] from ((List.perm_middle (l₁ := [box TC C (ccl ht h (.slice none 0 0)), box TC B (ccl ht h (.slice none 0 0))])).trans (.cons _ ((List.perm_middle (l₁ := [box TC C (ccl ht h (.slice none 0 0))])).trans (.cons _ ((List.perm_middle (l₁ := [])).trans (.cons _ ((List.perm_middle (l₁ := [box TC N (ccl ht h (.slice none 0 0))])).trans (.cons _ ((List.perm_middle (l₁ := [box TC N (ccl ht h (.slice none 0 0))])).trans (.cons _ ((List.perm_middle (l₁ := [])).trans (.cons _ (.refl _))))))))))))))⟩
      · rw [if_pos (by kernel_rfl)]
        refine wp_value (w' := z1.alloc (.cells zcm.toArray TC)) (.pointer (some ⟨z1.heap.size, 0, none⟩)) (by kernel_rfl) ?_
        try simp only [List.getElem_toArray, List.getElem_cons_succ, List.getElem_cons_zero, Act.put, List.setIfInBounds_toArray, List.set_cons_zero, List.set_cons_succ]
        obtain ⟨C, eC⟩ : ∃ A, z1.heap.size = A := ⟨_, rfl⟩
        have hbC := bag_box (T := TC) (cs := zcm) (X := C) B1.out eC.symm (w' := z1.alloc (.cells zcm.toArray TC)) (by rw [← eC]; exact At.new _ _ _) (Below.alloc (Below.refl _ _) (Nat.le_refl _) _)
        rw [eC]
        clear eC
        generalize World.alloc z1 _ = z2 at *
        have B2 := WirS.hide hbC
        clear hbC B1
        refine hK.out _ _ (range_from (B2.out.all (box TC N (ccl ht h (.slice none 0 0))) (by simp)).1) (fun hHeld => ?_)
        clear hK K
        refine wpAnyH_ready (rs := [3]) (by kernel_rfl) (by simp) ?_
        refine AllReadyH.cons rfl (fun K hK => ?_) AllReadyH.nil
        rw [if_pos (by kernel_rfl)]
        refine wp_value (w' := z2.alloc (.cells zcm.toArray TC)) (.pointer (some ⟨z2.heap.size, 0, none⟩)) (by kernel_rfl) ?_
        try simp only [List.getElem_toArray, List.getElem_cons_succ, List.getElem_cons_zero, Act.put, List.setIfInBounds_toArray, List.set_cons_zero, List.set_cons_succ]
        obtain ⟨A, eA⟩ : ∃ A, z2.heap.size = A := ⟨_, rfl⟩
        have hbA := bag_box (T := TC) (cs := zcm) (X := A) B2.out eA.symm (w' := z2.alloc (.cells zcm.toArray TC)) (by rw [← eA]; exact At.new _ _ _) (Below.alloc (Below.refl _ _) (Nat.le_refl _) _)
        rw [eA]
        clear eA
        generalize World.alloc z2 _ = z3 at *
        have B3 := WirS.hide hbA
        clear hbA B2
        refine hK.out _ _ (range_from (B3.out.all (box TC N (ccl ht h (.slice none 0 0))) (by simp)).1) (fun hHeld => ?_)
        clear hK K
        refine wpAnyH_ready (rs := [6]) (by kernel_rfl) (by simp) ?_
        refine AllReadyH.cons rfl (fun K hK => ?_) AllReadyH.nil
        rw [if_pos (by kernel_rfl)]
        have G6a := WirS.hide (B3.out.perm (show [box TC A zcm, box TC C zcm, box TC B zcm, box TC N (ccl ht h (.slice none 0 0)), ownt (.slice ca n cc) vs, box TC X (ccl ht h (.slice a n c))].Perm [box TC A zcm, box TC C zcm, box TC B zcm, box TC N (ccl ht h (.slice none 0 0)), ownt (.slice ca n cc) vs, box TC X (ccl ht h (.slice a n c))] from ((List.perm_middle (l₁ := [])).trans (.cons _ ((List.perm_middle (l₁ := [])).trans (.cons _ ((List.perm_middle (l₁ := [])).trans (.cons _ ((List.perm_middle (l₁ := [])).trans (.cons _ ((List.perm_middle (l₁ := [])).trans (.cons _ ((List.perm_middle (l₁ := [])).trans (.cons _ (.refl _)))))))))))))))
        clear B3
        refine wp_store_row TC (.tmp 10) (.tmp 47) (by kernel_rfl) A (ccl ht h (.slice none 0 0)).toArray (by kernel_rfl) (by kernel_rfl) TC zcm.toArray G6a.out.head (by rw [List.size_toArray, ccl_len _ _ _ HL.out]; kernel_rfl) (by rw [List.size_toArray, List.size_toArray, ccl_len _ _ _ HL.out]; rfl) (one_ccl _ _ _ _ _) ?_
        have G6 := WirS.hide (bag_row G6a.out (ccl ht h (.slice none 0 0)))
        clear G6a
        refine hK.out _ _ (range_from (G6.out.all (box TC N (ccl ht h (.slice none 0 0))) (by simp)).1) (fun hHeld => ?_)
        clear hK K
        try simp only [Act.put]
        generalize World.setRow z3 A _ = y6 at *
        refine wpAnyH_ready (rs := [7]) (by kernel_rfl) (by simp) ?_
        refine AllReadyH.cons rfl (fun K hK => ?_) AllReadyH.nil
        rw [if_pos (by kernel_rfl)]
        have G7a := WirS.hide (G6.out.perm (show [box TC A (ccl ht h (.slice none 0 0)), box TC C zcm, box TC B zcm, box TC N (ccl ht h (.slice none 0 0)), ownt (.slice ca n cc) vs, box TC X (ccl ht h (.slice a n c))].Perm [box TC B zcm, box TC A (ccl ht h (.slice none 0 0)), box TC C zcm, box TC N (ccl ht h (.slice none 0 0)), ownt (.slice ca n cc) vs, box TC X (ccl ht h (.slice a n c))] from ((List.perm_middle (l₁ := [box TC A (ccl ht h (.slice none 0 0)), box TC C zcm])).trans (.cons _ ((List.perm_middle (l₁ := [])).trans (.cons _ ((List.perm_middle (l₁ := [])).trans (.cons _ ((List.perm_middle (l₁ := [])).trans (.cons _ ((List.perm_middle (l₁ := [])).trans (.cons _ ((List.perm_middle (l₁ := [])).trans (.cons _ (.refl _)))))))))))))))
        clear G6
        refine wp_store_row TC (.tmp 11) (.tmp 48) (by kernel_rfl) B (ccl ht h (.slice none 0 0)).toArray (by kernel_rfl) (by kernel_rfl) TC zcm.toArray G7a.out.head (by rw [List.size_toArray, ccl_len _ _ _ HL.out]; kernel_rfl) (by rw [List.size_toArray, List.size_toArray, ccl_len _ _ _ HL.out]; rfl) (one_ccl _ _ _ _ _) ?_
        have G7 := WirS.hide (bag_row G7a.out (ccl ht h (.slice none 0 0)))
        clear G7a
        refine hK.out _ _ (range_from (G7.out.all (box TC N (ccl ht h (.slice none 0 0))) (by simp)).1) (fun hHeld => ?_)
        clear hK K
        try simp only [Act.put]
        generalize World.setRow y6 B _ = y7 at *
        refine wpAnyH_ready (rs := [8]) (by kernel_rfl) (by simp) ?_
        refine AllReadyH.cons rfl (fun K hK => ?_) AllReadyH.nil
        rw [if_pos (by kernel_rfl)]
        have G8a := WirS.hide (G7.out.perm (show [box TC B (ccl ht h (.slice none 0 0)), box TC A (ccl ht h (.slice none 0 0)), box TC C zcm, box TC N (ccl ht h (.slice none 0 0)), ownt (.slice ca n cc) vs, box TC X (ccl ht h (.slice a n c))].Perm [box TC C zcm, box TC B (ccl ht h (.slice none 0 0)), box TC A (ccl ht h (.slice none 0 0)), box TC N (ccl ht h (.slice none 0 0)), ownt (.slice ca n cc) vs, box TC X (ccl ht h (.slice a n c))] from ((List.perm_middle (l₁ := [box TC B (ccl ht h (.slice none 0 0)), box TC A (ccl ht h (.slice none 0 0))])).trans (.cons _ ((List.perm_middle (l₁ := [])).trans (.cons _ ((List.perm_middle (l₁ := [])).trans (.cons _ ((List.perm_middle (l₁ := [])).trans (.cons _ ((List.perm_middle (l₁ := [])).trans (.cons _ ((List.perm_middle (l₁ := [])).trans (.cons _ (.refl _)))))))))))))))
        clear G7
        refine wp_store_row TC (.tmp 12) (.tmp 49) (by kernel_rfl) C (ccl ht h (.slice none 0 0)).toArray (by kernel_rfl) (by kernel_rfl) TC zcm.toArray G8a.out.head (by rw [List.size_toArray, ccl_len _ _ _ HL.out]; kernel_rfl) (by rw [List.size_toArray, List.size_toArray, ccl_len _ _ _ HL.out]; rfl) (one_ccl _ _ _ _ _) ?_
        have G8 := WirS.hide (bag_row G8a.out (ccl ht h (.slice none 0 0)))
        clear G8a
        refine hK.out _ _ (range_from (G8.out.all (box TC N (ccl ht h (.slice none 0 0))) (by simp)).1) (fun hHeld => ?_)
        clear hK K
        try simp only [Act.put]
        generalize World.setRow y7 C _ = y8 at *
        refine wpAnyH_done (by kernel_rfl) ?_ _
        refine NoPanic.normal ?_
        clear hHeld
        go_wp2_with fail
        go_meet
        exact ⟨A, B, C, rfl, rfl, rfl, G8.out.perm (show [box TC C (ccl ht h (.slice none 0 0)), box TC B (ccl ht h (.slice none 0 0)), box TC A (ccl ht h (.slice none 0 0)), box TC N (ccl ht h (.slice none 0 0)), ownt (.slice ca n cc) vs, box TC X (ccl ht h (.slice a n c))].Perm [box TC A (ccl ht h (.slice none 0 0)), box TC B (ccl ht h (.slice none 0 0)), box TC C (ccl ht h (.slice none 0 0)), ownt (.slice ca n cc) vs, box TC X (ccl ht h (.slice a n c)), box TC N (ccl ht h (.slice none 0 0))] from ((List.perm_middle (l₁ := [box TC C (ccl ht h (.slice none 0 0)), box TC B (ccl ht h (.slice none 0 0))])).trans (.cons _ ((List.perm_middle (l₁ := [box TC C (ccl ht h (.slice none 0 0))])).trans (.cons _ ((List.perm_middle (l₁ := [])).trans (.cons _ ((List.perm_middle (l₁ := [box TC N (ccl ht h (.slice none 0 0))])).trans (.cons _ ((List.perm_middle (l₁ := [box TC N (ccl ht h (.slice none 0 0))])).trans (.cons _ ((List.perm_middle (l₁ := [])).trans (.cons _ (.refl _))))))))))))))⟩
    · rw [if_pos (by kernel_rfl)]
      refine wp_value (w' := z0.alloc (.cells zcm.toArray TC)) (.pointer (some ⟨z0.heap.size, 0, none⟩)) (by kernel_rfl) ?_
      try simp only [List.getElem_toArray, List.getElem_cons_succ, List.getElem_cons_zero, Act.put, List.setIfInBounds_toArray, List.set_cons_zero, List.set_cons_succ]
      obtain ⟨C, eC⟩ : ∃ A, z0.heap.size = A := ⟨_, rfl⟩
      have hbC := bag_box (T := TC) (cs := zcm) (X := C) HZ.out eC.symm (w' := z0.alloc (.cells zcm.toArray TC)) (by rw [← eC]; exact At.new _ _ _) (Below.alloc (Below.refl _ _) (Nat.le_refl _) _)
      rw [eC]
      clear eC
      generalize World.alloc z0 _ = z1 at *
      have B1 := WirS.hide hbC
      clear hbC HZ
      refine hK.out _ _ (range_from (B1.out.all (box TC N (ccl ht h (.slice none 0 0))) (by simp)).1) (fun hHeld => ?_)
      clear hK K
      refine wpAnyH_ready (rs := [3, 4]) (by kernel_rfl) (by simp) ?_
      refine AllReadyH.cons rfl (fun K hK => ?_) (AllReadyH.cons rfl (fun K hK => ?_) AllReadyH.nil)
      · rw [if_pos (by kernel_rfl)]
        refine wp_value (w' := z1.alloc (.cells zcm.toArray TC)) (.pointer (some ⟨z1.heap.size, 0, none⟩)) (by kernel_rfl) ?_
        try simp only [List.getElem_toArray, List.getElem_cons_succ, List.getElem_cons_zero, Act.put, List.setIfInBounds_toArray, List.set_cons_zero, List.set_cons_succ]
        obtain ⟨A, eA⟩ : ∃ A, z1.heap.size = A := ⟨_, rfl⟩
        have hbA := bag_box (T := TC) (cs := zcm) (X := A) B1.out eA.symm (w' := z1.alloc (.cells zcm.toArray TC)) (by rw [← eA]; exact At.new _ _ _) (Below.alloc (Below.refl _ _) (Nat.le_refl _) _)
        rw [eA]
        clear eA
        generalize World.alloc z1 _ = z2 at *
        have B2 := WirS.hide hbA
        clear hbA B1
        refine hK.out _ _ (range_from (B2.out.all (box TC N (ccl ht h (.slice none 0 0))) (by simp)).1) (fun hHeld => ?_)
        clear hK K
        refine wpAnyH_ready (rs := [4]) (by kernel_rfl) (by simp) ?_
        refine AllReadyH.cons rfl (fun K hK => ?_) AllReadyH.nil
        rw [if_pos (by kernel_rfl)]
        refine wp_value (w' := z2.alloc (.cells zcm.toArray TC)) (.pointer (some ⟨z2.heap.size, 0, none⟩)) (by kernel_rfl) ?_
        try simp only [List.getElem_toArray, List.getElem_cons_succ, List.getElem_cons_zero, Act.put, List.setIfInBounds_toArray, List.set_cons_zero, List.set_cons_succ]
        obtain ⟨B, eB⟩ : ∃ A, z2.heap.size = A := ⟨_, rfl⟩
        have hbB := bag_box (T := TC) (cs := zcm) (X := B) B2.out eB.symm (w' := z2.alloc (.cells zcm.toArray TC)) (by rw [← eB]; exact At.new _ _ _) (Below.alloc (Below.refl _ _) (Nat.le_refl _) _)
        rw [eB]
        clear eB
        generalize World.alloc z2 _ = z3 at *
        have B3 := WirS.hide hbB
        clear hbB B2
        refine hK.out _ _ (range_from (B3.out.all (box TC N (ccl ht h (.slice none 0 0))) (by simp)).1) (fun hHeld => ?_)
        clear hK K
        refine wpAnyH_ready (rs := [6]) (by kernel_rfl) (by simp) ?_
        refine AllReadyH.cons rfl (fun K hK => ?_) AllReadyH.nil
        rw [if_pos (by kernel_rfl)]
        have G6a := WirS.hide (B3.out.perm (show [box TC B zcm, box TC A zcm, box TC C zcm, box TC N (ccl ht h (.slice none 0 0)), ownt (.slice ca n cc) vs, box TC X (ccl ht h (.slice a n c))].Perm [box TC A zcm, box TC B zcm, box TC C zcm, box TC N (ccl ht h (.slice none 0 0)), ownt (.slice ca n cc) vs, box TC X (ccl ht h (.slice a n c))] from ((List.perm_middle (l₁ := [box TC B zcm])).trans (.cons _ ((List.perm_middle (l₁ := [])).trans (.cons _ ((List.perm_middle (l₁ := [])).trans (.cons _ ((List.perm_middle (l₁ := [])).trans (.cons _ ((List.perm_middle (l₁ := [])).trans (.cons _ ((List.perm_middle (l₁ := [])).trans (.cons _ (.refl _)))))))))))))))
        clear B3
        refine wp_store_row TC (.tmp 10) (.tmp 47) (by kernel_rfl) A (ccl ht h (.slice none 0 0)).toArray (by kernel_rfl) (by kernel_rfl) TC zcm.toArray G6a.out.head (by rw [List.size_toArray, ccl_len _ _ _ HL.out]; kernel_rfl) (by rw [List.size_toArray, List.size_toArray, ccl_len _ _ _ HL.out]; rfl) (one_ccl _ _ _ _ _) ?_
        have G6 := WirS.hide (bag_row G6a.out (ccl ht h (.slice none 0 0)))
        clear G6a
        refine hK.out _ _ (range_from (G6.out.all (box TC N (ccl ht h (.slice none 0 0))) (by simp)).1) (fun hHeld => ?_)
        clear hK K
        try simp only [Act.put]
        generalize World.setRow z3 A _ = y6 at *
        refine wpAnyH_ready (rs := [7]) (by kernel_rfl) (by simp) ?_
        refine AllReadyH.cons rfl (fun K hK => ?_) AllReadyH.nil
        rw [if_pos (by kernel_rfl)]
        have G7a := WirS.hide (G6.out.perm (show [box TC A (ccl ht h (.slice none 0 0)), box TC B zcm, box TC C zcm, box TC N (ccl ht h (.slice none 0 0)), ownt (.slice ca n cc) vs, box TC X (ccl ht h (.slice a n c))].Perm [box TC B zcm, box TC A (ccl ht h (.slice none 0 0)), box TC C zcm, box TC N (ccl ht h (.slice none 0 0)), ownt (.slice ca n cc) vs, box TC X (ccl ht h (.slice a n c))] from ((List.perm_middle (l₁ := [box TC A (ccl ht h (.slice none 0 0))])).trans (.cons _ ((List.perm_middle (l₁ := [])).trans (.cons _ ((List.perm_middle (l₁ := [])).trans (.cons _ ((List.perm_middle (l₁ := [])).trans (.cons _ ((List.perm_middle (l₁ := [])).trans (.cons _ ((List.perm_middle (l₁ := [])).trans (.cons _ (.refl _)))))))))))))))
        clear G6
        refine wp_store_row TC (.tmp 11) (.tmp 48) (by kernel_rfl) B (ccl ht h (.slice none 0 0)).toArray (by kernel_rfl) (by kernel_rfl) TC zcm.toArray G7a.out.head (by rw [List.size_toArray, ccl_len _ _ _ HL.out]; kernel_rfl) (by rw [List.size_toArray, List.size_toArray, ccl_len _ _ _ HL.out]; rfl) (one_ccl _ _ _ _ _) ?_
        have G7 := WirS.hide (bag_row G7a.out (ccl ht h (.slice none 0 0)))
        clear G7a
        refine hK.out _ _ (range_from (G7.out.all (box TC N (ccl ht h (.slice none 0 0))) (by simp)).1) (fun hHeld => ?_)
        clear hK K
        try simp only [Act.put]
        generalize World.setRow y6 B _ = y7 at *
        refine wpAnyH_ready (rs := [8]) (by kernel_rfl) (by simp) ?_
        refine AllReadyH.cons rfl (fun K hK => ?_) AllReadyH.nil
        rw [if_pos (by kernel_rfl)]
        have G8a := WirS.hide (G7.out.perm (show [box TC B (ccl ht h (.slice none 0 0)), box TC A (ccl ht h (.slice none 0 0)), box TC C zcm, box TC N (ccl ht h (.slice none 0 0)), ownt (.slice ca n cc) vs, box TC X (ccl ht h (.slice a n c))].Perm [box TC C zcm, box TC B (ccl ht h (.slice none 0 0)), box TC A (ccl ht h (.slice none 0 0)), box TC N (ccl ht h (.slice none 0 0)), ownt (.slice ca n cc) vs, box TC X (ccl ht h (.slice a n c))] from ((List.perm_middle (l₁ := [box TC B (ccl ht h (.slice none 0 0)), box TC A (ccl ht h (.slice none 0 0))])).trans (.cons _ ((List.perm_middle (l₁ := [])).trans (.cons _ ((List.perm_middle (l₁ := [])).trans (.cons _ ((List.perm_middle (l₁ := [])).trans (.cons _ ((List.perm_middle (l₁ := [])).trans (.cons _ ((List.perm_middle (l₁ := [])).trans (.cons _ (.refl _)))))))))))))))
        clear G7
        refine wp_store_row TC (.tmp 12) (.tmp 49) (by kernel_rfl) C (ccl ht h (.slice none 0 0)).toArray (by kernel_rfl) (by kernel_rfl) TC zcm.toArray G8a.out.head (by rw [List.size_toArray, ccl_len _ _ _ HL.out]; kernel_rfl) (by rw [List.size_toArray, List.size_toArray, ccl_len _ _ _ HL.out]; rfl) (one_ccl _ _ _ _ _) ?_
        have G8 := WirS.hide (bag_row G8a.out (ccl ht h (.slice none 0 0)))
        clear G8a
        refine hK.out _ _ (range_from (G8.out.all (box TC N (ccl ht h (.slice none 0 0))) (by simp)).1) (fun hHeld => ?_)
        clear hK K
        try simp only [Act.put]
        generalize World.setRow y7 C _ = y8 at *
        refine wpAnyH_done (by kernel_rfl) ?_ _
        refine NoPanic.normal ?_
        clear hHeld
        go_wp2_with fail
        go_meet
        exact ⟨A, B, C, rfl, rfl, rfl, G8.out.perm (show [box TC C (ccl ht h (.slice none 0 0)), box TC B (ccl ht h (.slice none 0 0)), box TC A (ccl ht h (.slice none 0 0)), box TC N (ccl ht h (.slice none 0 0)), ownt (.slice ca n cc) vs, box TC X (ccl ht h (.slice a n c))].Perm [box TC A (ccl ht h (.slice none 0 0)), box TC B (ccl ht h (.slice none 0 0)), box TC C (ccl ht h (.slice none 0 0)), ownt (.slice ca n cc) vs, box TC X (ccl ht h (.slice a n c)), box TC N (ccl ht h (.slice none 0 0))] from ((List.perm_middle (l₁ := [box TC C (ccl ht h (.slice none 0 0)), box TC B (ccl ht h (.slice none 0 0))])).trans (.cons _ ((List.perm_middle (l₁ := [box TC C (ccl ht h (.slice none 0 0))])).trans (.cons _ ((List.perm_middle (l₁ := [])).trans (.cons _ ((List.perm_middle (l₁ := [box TC N (ccl ht h (.slice none 0 0))])).trans (.cons _ ((List.perm_middle (l₁ := [box TC N (ccl ht h (.slice none 0 0))])).trans (.cons _ ((List.perm_middle (l₁ := [])).trans (.cons _ (.refl _))))))))))))))⟩
      · rw [if_pos (by kernel_rfl)]
        refine wp_value (w' := z1.alloc (.cells zcm.toArray TC)) (.pointer (some ⟨z1.heap.size, 0, none⟩)) (by kernel_rfl) ?_
        try simp only [List.getElem_toArray, List.getElem_cons_succ, List.getElem_cons_zero, Act.put, List.setIfInBounds_toArray, List.set_cons_zero, List.set_cons_succ]
        obtain ⟨B, eB⟩ : ∃ A, z1.heap.size = A := ⟨_, rfl⟩
        have hbB := bag_box (T := TC) (cs := zcm) (X := B) B1.out eB.symm (w' := z1.alloc (.cells zcm.toArray TC)) (by rw [← eB]; exact At.new _ _ _) (Below.alloc (Below.refl _ _) (Nat.le_refl _) _)
        rw [eB]
        clear eB
        generalize World.alloc z1 _ = z2 at *
        have B2 := WirS.hide hbB
        clear hbB B1
        refine hK.out _ _ (range_from (B2.out.all (box TC N (ccl ht h (.slice none 0 0))) (by simp)).1) (fun hHeld => ?_)
        clear hK K
        refine wpAnyH_ready (rs := [3]) (by kernel_rfl) (by simp) ?_
        refine AllReadyH.cons rfl (fun K hK => ?_) AllReadyH.nil
        rw [if_pos (by kernel_rfl)]
        refine wp_value (w' := z2.alloc (.cells zcm.toArray TC)) (.pointer (some ⟨z2.heap.size, 0, none⟩)) (by kernel_rfl) ?_
        try simp only [List.getElem_toArray, List.getElem_cons_succ, List.getElem_cons_zero, Act.put, List.setIfInBounds_toArray, List.set_cons_zero, List.set_cons_succ]
        obtain ⟨A, eA⟩ : ∃ A, z2.heap.size = A := ⟨_, rfl⟩
        have hbA := bag_box (T := TC) (cs := zcm) (X := A) B2.out eA.symm (w' := z2.alloc (.cells zcm.toArray TC)) (by rw [← eA]; exact At.new _ _ _) (Below.alloc (Below.refl _ _) (Nat.le_refl _) _)
        rw [eA]
        clear eA
        generalize World.alloc z2 _ = z3 at *
        have B3 := WirS.hide hbA
        clear hbA B2
        refine hK.out _ _ (range_from (B3.out.all (box TC N (ccl ht h (.slice none 0 0))) (by simp)).1) (fun hHeld => ?_)
        clear hK K
        refine wpAnyH_ready (rs := [6]) (by kernel_rfl) (by simp) ?_
        refine AllReadyH.cons rfl (fun K hK => ?_) AllReadyH.nil
        rw [if_pos (by kernel_rfl)]
        have G6a := WirS.hide (B3.out.perm (show [box TC A zcm, box TC B zcm, box TC C zcm, box TC N (ccl ht h (.slice none 0 0)), ownt (.slice ca n cc) vs, box TC X (ccl ht h (.slice a n c))].Perm [box TC A zcm, box TC B zcm, box TC C zcm, box TC N (ccl ht h (.slice none 0 0)), ownt (.slice ca n cc) vs, box TC X (ccl ht h (.slice a n c))] from ((List.perm_middle (l₁ := [])).trans (.cons _ ((List.perm_middle (l₁ := [])).trans (.cons _ ((List.perm_middle (l₁ := [])).trans (.cons _ ((List.perm_middle (l₁ := [])).trans (.cons _ ((List.perm_middle (l₁ := [])).trans (.cons _ ((List.perm_middle (l₁ := [])).trans (.cons _ (.refl _)))))))))))))))
        clear B3
        refine wp_store_row TC (.tmp 10) (.tmp 47) (by kernel_rfl) A (ccl ht h (.slice none 0 0)).toArray (by kernel_rfl) (by kernel_rfl) TC zcm.toArray G6a.out.head (by rw [List.size_toArray, ccl_len _ _ _ HL.out]; kernel_rfl) (by rw [List.size_toArray, List.size_toArray, ccl_len _ _ _ HL.out]; rfl) (one_ccl _ _ _ _ _) ?_
        have G6 := WirS.hide (bag_row G6a.out (ccl ht h (.slice none 0 0)))
        clear G6a
        refine hK.out _ _ (range_from (G6.out.all (box TC N (ccl ht h (.slice none 0 0))) (by simp)).1) (fun hHeld => ?_)
        clear hK K
        try simp only [Act.put]
        generalize World.setRow z3 A _ = y6 at *
        refine wpAnyH_ready (rs := [7]) (by kernel_rfl) (by simp) ?_
        refine AllReadyH.cons rfl (fun K hK => ?_) AllReadyH.nil
        rw [if_pos (by kernel_rfl)]
        have G7a := WirS.hide (G6.out.perm (show [box TC A (ccl ht h (.slice none 0 0)), box TC B zcm, box TC C zcm, box TC N (ccl ht h (.slice none 0 0)), ownt (.slice ca n cc) vs, box TC X (ccl ht h (.slice a n c))].Perm [box TC B zcm, box TC A (ccl ht h (.slice none 0 0)), box TC C zcm, box TC N (ccl ht h (.slice none 0 0)), ownt (.slice ca n cc) vs, box TC X (ccl ht h (.slice a n c))] from ((List.perm_middle (l₁ := [box TC A (ccl ht h (.slice none 0 0))])).trans (.cons _ ((List.perm_middle (l₁ := [])).trans (.cons _ ((List.perm_middle (l₁ := [])).trans (.cons _ ((List.perm_middle (l₁ := [])).trans (.cons _ ((List.perm_middle (l₁ := [])).trans (.cons _ ((List.perm_middle (l₁ := [])).trans (.cons _ (.refl _)))))))))))))))
        clear G6
        refine wp_store_row TC (.tmp 11) (.tmp 48) (by kernel_rfl) B (ccl ht h (.slice none 0 0)).toArray (by kernel_rfl) (by kernel_rfl) TC zcm.toArray G7a.out.head (by rw [List.size_toArray, ccl_len _ _ _ HL.out]; kernel_rfl) (by rw [List.size_toArray, List.size_toArray, ccl_len _ _ _ HL.out]; rfl) (one_ccl _ _ _ _ _) ?_
        have G7 := WirS.hide (bag_row G7a.out (ccl ht h (.slice none 0 0)))
        clear G7a
        refine hK.out _ _ (range_from (G7.out.all (box TC N (ccl ht h (.slice none 0 0))) (by simp)).1) (fun hHeld => ?_)
        clear hK K
        try simp only [Act.put]
        generalize World.setRow y6 B _ = y7 at *
        refine wpAnyH_ready (rs := [8]) (by kernel_rfl) (by simp) ?_
        refine AllReadyH.cons rfl (fun K hK => ?_) AllReadyH.nil
        rw [if_pos (by kernel_rfl)]
        have G8a := WirS.hide (G7.out.perm (show [box TC B (ccl ht h (.slice none 0 0)), box TC A (ccl ht h (.slice none 0 0)), box TC C zcm, box TC N (ccl ht h (.slice none 0 0)), ownt (.slice ca n cc) vs, box TC X (ccl ht h (.slice a n c))].Perm [box TC C zcm, box TC B (ccl ht h (.slice none 0 0)), box TC A (ccl ht h (.slice none 0 0)), box TC N (ccl ht h (.slice none 0 0)), ownt (.slice ca n cc) vs, box TC X (ccl ht h (.slice a n c))] from ((List.perm_middle (l₁ := [box TC B (ccl ht h (.slice none 0 0)), box TC A (ccl ht h (.slice none 0 0))])).trans (.cons _ ((List.perm_middle (l₁ := [])).trans (.cons _ ((List.perm_middle (l₁ := [])).trans (.cons _ ((List.perm_middle (l₁ := [])).trans (.cons _ ((List.perm_middle (l₁ := [])).trans (.cons _ ((List.perm_middle (l₁ := [])).trans (.cons _ (.refl _)))))))))))))))
        clear G7
        refine wp_store_row TC (.tmp 12) (.tmp 49) (by kernel_rfl) C (ccl ht h (.slice none 0 0)).toArray (by kernel_rfl) (by kernel_rfl) TC zcm.toArray G8a.out.head (by rw [List.size_toArray, ccl_len _ _ _ HL.out]; kernel_rfl) (by rw [List.size_toArray, List.size_toArray, ccl_len _ _ _ HL.out]; rfl) (one_ccl _ _ _ _ _) ?_
        have G8 := WirS.hide (bag_row G8a.out (ccl ht h (.slice none 0 0)))
        clear G8a
        refine hK.out _ _ (range_from (G8.out.all (box TC N (ccl ht h (.slice none 0 0))) (by simp)).1) (fun hHeld => ?_)
        clear hK K
        try simp only [Act.put]
        generalize World.setRow y7 C _ = y8 at *
        refine wpAnyH_done (by kernel_rfl) ?_ _
        refine NoPanic.normal ?_
        clear hHeld
        go_wp2_with fail
        go_meet
        exact ⟨A, B, C, rfl, rfl, rfl, G8.out.perm (show [box TC C (ccl ht h (.slice none 0 0)), box TC B (ccl ht h (.slice none 0 0)), box TC A (ccl ht h (.slice none 0 0)), box TC N (ccl ht h (.slice none 0 0)), ownt (.slice ca n cc) vs, box TC X (ccl ht h (.slice a n c))].Perm [box TC A (ccl ht h (.slice none 0 0)), box TC B (ccl ht h (.slice none 0 0)), box TC C (ccl ht h (.slice none 0 0)), ownt (.slice ca n cc) vs, box TC X (ccl ht h (.slice a n c)), box TC N (ccl ht h (.slice none 0 0))] from ((List.perm_middle (l₁ := [box TC C (ccl ht h (.slice none 0 0)), box TC B (ccl ht h (.slice none 0 0))])).trans (.cons _ ((List.perm_middle (l₁ := [box TC C (ccl ht h (.slice none 0 0))])).trans (.cons _ ((List.perm_middle (l₁ := [])).trans (.cons _ ((List.perm_middle (l₁ := [box TC N (ccl ht h (.slice none 0 0))])).trans (.cons _ ((List.perm_middle (l₁ := [box TC N (ccl ht h (.slice none 0 0))])).trans (.cons _ ((List.perm_middle (l₁ := [])).trans (.cons _ (.refl _))))))))))))))⟩
  case rest =>
    obtain ⟨A, B, C, rfl, rfl, rfl, hb5⟩ := hcut
    clear H45
    have hgr := Gr.start HUP.out
    have hb5' := (hb5.perm (show [box TC A (ccl ht h (.slice none 0 0)), box TC B (ccl ht h (.slice none 0 0)), box TC C (ccl ht h (.slice none 0 0)), ownt (.slice ca n cc) vs, box TC X (ccl ht h (.slice a n c)), box TC N (ccl ht h (.slice none 0 0))].Perm [box TC N (ccl ht h (.slice none 0 0)), box TC A (ccl ht h (.slice none 0 0)), box TC B (ccl ht h (.slice none 0 0)), box TC C (ccl ht h (.slice none 0 0)), ownt (.slice ca n cc) vs, box TC X (ccl ht h (.slice a n c))] from ((List.perm_middle (l₁ := [box TC A (ccl ht h (.slice none 0 0)), box TC B (ccl ht h (.slice none 0 0)), box TC C (ccl ht h (.slice none 0 0)), ownt (.slice ca n cc) vs, box TC X (ccl ht h (.slice a n c))])).trans (.cons _ ((List.perm_middle (l₁ := [])).trans (.cons _ ((List.perm_middle (l₁ := [])).trans (.cons _ ((List.perm_middle (l₁ := [])).trans (.cons _ ((List.perm_middle (l₁ := [])).trans (.cons _ ((List.perm_middle (l₁ := [])).trans (.cons _ (.refl _))))))))))))))).drop
    have hb6 := bag_ownt (bag_ownt (bag_ownt hb5' (OwnT.nil wc) (fun k hk => by simp [Value.ownBlock] at hk) (Below.refl _ _)) (OwnT.nil wc) (fun k hk => by simp [Value.ownBlock] at hk) (Below.refl _ _)) (OwnT.nil wc) (fun k hk => by simp [Value.ownBlock] at hk) (Below.refl _ _)
    have hb7 : Bag w wc [box TC A (ccl ht h (.slice none 0 0)), box TC B (ccl ht h (.slice none 0 0)), box TC C (ccl ht h (.slice none 0 0)), ownt (.slice ca n cc) vs, ownt (.slice none 0 0) [], ownt (.slice none 0 0) [], ownt (.slice none 0 0) [], box TC X (ccl ht h (.slice a n c))] := hb6.perm (show (([ownt (.slice none 0 0) [], ownt (.slice none 0 0) [], ownt (.slice none 0 0) []] : List Thg) ++ ([box TC A (ccl ht h (.slice none 0 0)), box TC B (ccl ht h (.slice none 0 0)), box TC C (ccl ht h (.slice none 0 0)), ownt (.slice ca n cc) vs] ++ [box TC X (ccl ht h (.slice a n c))])).Perm ([box TC A (ccl ht h (.slice none 0 0)), box TC B (ccl ht h (.slice none 0 0)), box TC C (ccl ht h (.slice none 0 0)), ownt (.slice ca n cc) vs] ++ ([ownt (.slice none 0 0) [], ownt (.slice none 0 0) [], ownt (.slice none 0 0) []] ++ [box TC X (ccl ht h (.slice a n c))])) from List.perm_append_comm_assoc _ _ _)
    clear hb5'
    have H7 := WirS.hide hb7
    have HG := WirS.hide hgr
    clear hb5 hb6 hb7 hgr
    go_wp2_with fail
    go_loopw [8, 13] (fun s i wr => MidG w ht h vs X (ccl ht h (.slice a n c)) A B C s i wr) (fun s _ _ => vlen s)
    case atStart =>
      obtain rfl := HVL.out
      exact ⟨0, vs, [], [], [], ca, cc, none, 0, 0, none, 0, 0, none, 0, 0, rfl, rfl, by omega, HG.out, H7.out⟩
    case round =>
      clear H7 HG
      obtain ⟨k, left, al, x, y, la, lc, aa, an, ac, xa, xn, xc, ya, yn, yc, rfl, rfl, hkl, hgr, hB⟩ := hrel
      obtain ⟨ck1, ck2, ck3, cn1, cn2, cn3⟩ := hgr.chks HK.out
      have HG := WirS.hide hgr
      have HB := WirS.hide hB
      have HC1 := WirS.hide ck1
      have HC2 := WirS.hide ck2
      have HC3 := WirS.hide ck3
      have HN1 := WirS.hide (And.intro cn1 (And.intro cn2 cn3))
      have hk70 : k + left.length ≤ 70 := by have h1 := HVL.out; have h2 := HN.out; omega
      have HKL := WirS.hide hkl
      clear hgr hB ck1 ck2 ck3 cn1 cn2 cn3 hkl
      by_cases hz : left.length = 0
      · have hl0 : left = [] := List.eq_nil_of_length_eq_zero hz
        subst hl0
        obtain ⟨rfl, m1, m2, m3, m4⟩ := HG.out.done HUP.out
        have HM := WirS.hide (And.intro m1 (And.intro m2 (And.intro m3 m4)))
        clear m1 m2 m3 m4 hz hk70
        have HB0 : Hid (Bag w wr [box TC A (ccl ht h (.slice aa an ac)), box TC B (ccl ht h (.slice xa xn xc)), box TC C (ccl ht h (.slice ya yn yc)), ownt (.slice la 0 lc) [], ownt (.slice aa an ac) al, ownt (.slice xa xn xc) x, ownt (.slice ya yn yc) y, box TC X (ccl ht h (.slice a n c))]) := HB
        clear HB
        go_upto_region 25 with fail
        refine wp_region_lit ?_
        refine sV (.bool true) (wr) (by kernel_rfl) (by kernel_rfl) ?_
        simp only [Act.put, List.setIfInBounds_toArray, List.set_cons_succ, List.set_cons_zero]
        refine sV (.bool true) (wr) (by kernel_rfl) (by kernel_rfl) ?_
        simp only [Act.put, List.setIfInBounds_toArray, List.set_cons_succ, List.set_cons_zero]
        obtain rfl : n = an := by obtain ⟨q1, q2, e⟩ := (show OwnT wr (.slice aa an ac) al from (HB0.out.all (ownt (.slice aa an ac) al) (by simp)).1).len_of; cases e; exact HVL.out.symm
        refine sL (by kernel_rfl) _ _ (by rfl) _ (by kernel_rfl) (HB0.out.all (box TC A (ccl ht h (.slice aa n ac))) (by simp)).1 _ _ UC rfl (by kernel_rfl) (by rw [ccl_len _ _ _ HL.out]) ?_
        simp only [Act.put, List.setIfInBounds_toArray, List.set_cons_succ, List.set_cons_zero]
        refine sL (by kernel_rfl) _ _ (by rfl) _ (by kernel_rfl) (HB0.out.all (box TC X (ccl ht h (.slice a n c))) (by simp)).1 _ _ UC rfl (by kernel_rfl) (by rw [ccl_len _ _ _ HL.out]) ?_
        simp only [Act.put, List.setIfInBounds_toArray, List.set_cons_succ, List.set_cons_zero]
        refine sC (R := fun w' => Below wr.heap.size wr w') (v := .bool true) (by kernel_rfl) (by kernel_rfl) (CmN.sc_any wr ht h aa a n ac c al HL.out ((show OwnT wr (.slice aa n ac) al from (HB0.out.all (ownt (.slice aa n ac) al) (by simp)).1).vin) (HV.out.below HB0.out.low)) ?_
        rintro u46 hb
        simp only [Act.put, List.setIfInBounds_toArray, List.set_cons_succ, List.set_cons_zero]
        have H47 := WirS.hide (HB0.out.more hb)
        clear HB0
        clear hb
        refine sV (.bool true) (u46) (by kernel_rfl) (by kernel_rfl) ?_
        simp only [Act.put, List.setIfInBounds_toArray, List.set_cons_succ, List.set_cons_zero]
        refine sV (.bool true) (u46) (by kernel_rfl) (by kernel_rfl) ?_
        simp only [Act.put, List.setIfInBounds_toArray, List.set_cons_succ, List.set_cons_zero]
        refine sL (by kernel_rfl) _ _ (by rfl) _ (by kernel_rfl) (H47.out.all (box TC B (ccl ht h (.slice xa xn xc))) (by simp)).1 _ _ UC rfl (by kernel_rfl) (by rw [ccl_len _ _ _ HL.out]) ?_
        simp only [Act.put, List.setIfInBounds_toArray, List.set_cons_succ, List.set_cons_zero]
        refine sL (by kernel_rfl) _ _ (by rfl) _ (by kernel_rfl) (H47.out.all (box TC C (ccl ht h (.slice ya yn yc))) (by simp)).1 _ _ UC rfl (by kernel_rfl) (by rw [ccl_len _ _ _ HL.out]) ?_
        simp only [Act.put, List.setIfInBounds_toArray, List.set_cons_succ, List.set_cons_zero]
        refine sL (by kernel_rfl) _ _ (by rfl) _ (by kernel_rfl) (H47.out.all (box TC X (ccl ht h (.slice a n c))) (by simp)).1 _ _ UC rfl (by kernel_rfl) (by rw [ccl_len _ _ _ HL.out]) ?_
        simp only [Act.put, List.setIfInBounds_toArray, List.set_cons_succ, List.set_cons_zero]
        refine sC (R := fun w' => Below u46.heap.size u46 w') (v := .bool true) (by kernel_rfl) (by kernel_rfl) (CmO.joins_any u46 ht ht ht h h h xa ya a xn xc yn yc n c al 0 HL.out HL.out HL.out ((HV.out.below H47.out.low)) (fun U hU => by have C := CmL.join_any U ht ht h h xa ya xn xc yn yc x y HL.out HL.out (((show OwnT u46 (.slice xa xn xc) x from (H47.out.all (ownt (.slice xa xn xc) x) (by simp)).1).vin).below hU) (((show OwnT u46 (.slice ya yn yc) y from (H47.out.all (ownt (.slice ya yn yc) y) (by simp)).1).vin).below hU) (by have := HN1.out; have := HN.out; have := HVL.out; first | omega | (have e1 := (((show OwnT u46 (.slice xa xn xc) x from (H47.out.all (ownt (.slice xa xn xc) x) (by simp)).1).vin).below hU).len; have e2 := (((show OwnT u46 (.slice ya yn yc) y from (H47.out.all (ownt (.slice ya yn yc) y) (by simp)).1).vin).below hU).len; omega)) (by have := HN1.out; have := HN.out; have := HVL.out; first | omega | (have e1 := (((show OwnT u46 (.slice xa xn xc) x from (H47.out.all (ownt (.slice xa xn xc) x) (by simp)).1).vin).below hU).len; have e2 := (((show OwnT u46 (.slice ya yn yc) y from (H47.out.all (ownt (.slice ya yn yc) y) (by simp)).1).vin).below hU).len; omega)); unfold CmL.JP CmL.joinO at C; rw [if_neg (by simp [HC2.out]), if_neg (by simp [HC3.out]), if_neg (by simp), HM.out.1] at C; exact C)) ?_
        rintro u48 hb
        simp only [Act.put, List.setIfInBounds_toArray, List.set_cons_succ, List.set_cons_zero]
        have H49 := WirS.hide (H47.out.more hb)
        clear H47
        clear hb
        refine sV (.bool true) (u48) (by kernel_rfl) (by kernel_rfl) ?_
        simp only [Act.put, List.setIfInBounds_toArray, List.set_cons_succ, List.set_cons_zero]
        refine sV (.bool true) (u48) (by kernel_rfl) (by kernel_rfl) ?_
        simp only [Act.put, List.setIfInBounds_toArray, List.set_cons_succ, List.set_cons_zero]
        refine sL (by kernel_rfl) _ _ (by rfl) _ (by kernel_rfl) (H49.out.all (box TC C (ccl ht h (.slice ya yn yc))) (by simp)).1 _ _ UC rfl (by kernel_rfl) (by rw [ccl_len _ _ _ HL.out]) ?_
        simp only [Act.put, List.setIfInBounds_toArray, List.set_cons_succ, List.set_cons_zero]
        refine sL (by kernel_rfl) _ _ (by rfl) _ (by kernel_rfl) (H49.out.all (box TC B (ccl ht h (.slice xa xn xc))) (by simp)).1 _ _ UC rfl (by kernel_rfl) (by rw [ccl_len _ _ _ HL.out]) ?_
        simp only [Act.put, List.setIfInBounds_toArray, List.set_cons_succ, List.set_cons_zero]
        refine sL (by kernel_rfl) _ _ (by rfl) _ (by kernel_rfl) (H49.out.all (box TC X (ccl ht h (.slice a n c))) (by simp)).1 _ _ UC rfl (by kernel_rfl) (by rw [ccl_len _ _ _ HL.out]) ?_
        simp only [Act.put, List.setIfInBounds_toArray, List.set_cons_succ, List.set_cons_zero]
        refine sC (R := fun w' => Below u48.heap.size u48 w') (v := .bool true) (by kernel_rfl) (by kernel_rfl) (CmO.joins_any u48 ht ht ht h h h ya xa a yn yc xn xc n c al 0 HL.out HL.out HL.out ((HV.out.below H49.out.low)) (fun U hU => by have C := CmL.join_any U ht ht h h ya xa yn yc xn xc y x HL.out HL.out (((show OwnT u48 (.slice ya yn yc) y from (H49.out.all (ownt (.slice ya yn yc) y) (by simp)).1).vin).below hU) (((show OwnT u48 (.slice xa xn xc) x from (H49.out.all (ownt (.slice xa xn xc) x) (by simp)).1).vin).below hU) (by have := HN1.out; have := HN.out; have := HVL.out; first | omega | (have e1 := (((show OwnT u48 (.slice ya yn yc) y from (H49.out.all (ownt (.slice ya yn yc) y) (by simp)).1).vin).below hU).len; have e2 := (((show OwnT u48 (.slice xa xn xc) x from (H49.out.all (ownt (.slice xa xn xc) x) (by simp)).1).vin).below hU).len; omega)) (by have := HN1.out; have := HN.out; have := HVL.out; first | omega | (have e1 := (((show OwnT u48 (.slice ya yn yc) y from (H49.out.all (ownt (.slice ya yn yc) y) (by simp)).1).vin).below hU).len; have e2 := (((show OwnT u48 (.slice xa xn xc) x from (H49.out.all (ownt (.slice xa xn xc) x) (by simp)).1).vin).below hU).len; omega)); unfold CmL.JP CmL.joinO at C; rw [if_neg (by simp [HC3.out]), if_neg (by simp [HC2.out]), if_neg (by simp), HM.out.2.1] at C; exact C)) ?_
        rintro u50 hb
        simp only [Act.put, List.setIfInBounds_toArray, List.set_cons_succ, List.set_cons_zero]
        have H51 := WirS.hide (H49.out.more hb)
        clear H49
        clear hb
        refine sV (.bool true) (u50) (by kernel_rfl) (by kernel_rfl) ?_
        simp only [Act.put, List.setIfInBounds_toArray, List.set_cons_succ, List.set_cons_zero]
        refine sV (.bool true) (u50) (by kernel_rfl) (by kernel_rfl) ?_
        simp only [Act.put, List.setIfInBounds_toArray, List.set_cons_succ, List.set_cons_zero]
        refine sL (by kernel_rfl) _ _ (by rfl) _ (by kernel_rfl) (H51.out.all (box TC X (ccl ht h (.slice a n c))) (by simp)).1 _ _ UC rfl (by kernel_rfl) (by rw [ccl_len _ _ _ HL.out]) ?_
        simp only [Act.put, List.setIfInBounds_toArray, List.set_cons_succ, List.set_cons_zero]
        refine sL (by kernel_rfl) _ _ (by rfl) _ (by kernel_rfl) (H51.out.all (box TC B (ccl ht h (.slice xa xn xc))) (by simp)).1 _ _ UC rfl (by kernel_rfl) (by rw [ccl_len _ _ _ HL.out]) ?_
        simp only [Act.put, List.setIfInBounds_toArray, List.set_cons_succ, List.set_cons_zero]
        refine sL (by kernel_rfl) _ _ (by rfl) _ (by kernel_rfl) (H51.out.all (box TC X (ccl ht h (.slice a n c))) (by simp)).1 _ _ UC rfl (by kernel_rfl) (by rw [ccl_len _ _ _ HL.out]) ?_
        simp only [Act.put, List.setIfInBounds_toArray, List.set_cons_succ, List.set_cons_zero]
        refine sC (R := fun w' => Below u50.heap.size u50 w') (v := .bool true) (by kernel_rfl) (by kernel_rfl) (CmO.joins_any u50 ht ht ht h h h a xa a n c xn xc n c al 0 HL.out HL.out HL.out ((HV.out.below H51.out.low)) (fun U hU => by have C := CmL.join_any U ht ht h h a xa n c xn xc al x HL.out HL.out ((HV.out.below H51.out.low).below hU) (((show OwnT u50 (.slice xa xn xc) x from (H51.out.all (ownt (.slice xa xn xc) x) (by simp)).1).vin).below hU) (by have := HN1.out; have := HN.out; have := HVL.out; first | omega | (have e1 := ((HV.out.below H51.out.low).below hU).len; have e2 := (((show OwnT u50 (.slice xa xn xc) x from (H51.out.all (ownt (.slice xa xn xc) x) (by simp)).1).vin).below hU).len; omega)) (by have := HN1.out; have := HN.out; have := HVL.out; first | omega | (have e1 := ((HV.out.below H51.out.low).below hU).len; have e2 := (((show OwnT u50 (.slice xa xn xc) x from (H51.out.all (ownt (.slice xa xn xc) x) (by simp)).1).vin).below hU).len; omega)); unfold CmL.JP CmL.joinO at C; rw [if_neg (by simp [HK.out]), if_neg (by simp [HC2.out]), if_neg (by simp), HM.out.2.2.1] at C; exact C)) ?_
        rintro u52 hb
        simp only [Act.put, List.setIfInBounds_toArray, List.set_cons_succ, List.set_cons_zero]
        have H53 := WirS.hide (H51.out.more hb)
        clear H51
        clear hb
        refine sV (.bool true) (u52) (by kernel_rfl) (by kernel_rfl) ?_
        simp only [Act.put, List.setIfInBounds_toArray, List.set_cons_succ, List.set_cons_zero]
        refine sV (.bool true) (u52) (by kernel_rfl) (by kernel_rfl) ?_
        simp only [Act.put, List.setIfInBounds_toArray, List.set_cons_succ, List.set_cons_zero]
        refine sL (by kernel_rfl) _ _ (by rfl) _ (by kernel_rfl) (H53.out.all (box TC B (ccl ht h (.slice xa xn xc))) (by simp)).1 _ _ UC rfl (by kernel_rfl) (by rw [ccl_len _ _ _ HL.out]) ?_
        simp only [Act.put, List.setIfInBounds_toArray, List.set_cons_succ, List.set_cons_zero]
        refine sL (by kernel_rfl) _ _ (by rfl) _ (by kernel_rfl) (H53.out.all (box TC B (ccl ht h (.slice xa xn xc))) (by simp)).1 _ _ UC rfl (by kernel_rfl) (by rw [ccl_len _ _ _ HL.out]) ?_
        simp only [Act.put, List.setIfInBounds_toArray, List.set_cons_succ, List.set_cons_zero]
        refine sL (by kernel_rfl) _ _ (by rfl) _ (by kernel_rfl) (H53.out.all (box TC B (ccl ht h (.slice xa xn xc))) (by simp)).1 _ _ UC rfl (by kernel_rfl) (by rw [ccl_len _ _ _ HL.out]) ?_
        simp only [Act.put, List.setIfInBounds_toArray, List.set_cons_succ, List.set_cons_zero]
        refine sC (R := fun w' => Below u52.heap.size u52 w') (v := .bool true) (by kernel_rfl) (by kernel_rfl) (CmO.joins_any u52 ht ht ht h h h xa xa xa xn xc xn xc xn xc x 0 HL.out HL.out HL.out (((show OwnT u52 (.slice xa xn xc) x from (H53.out.all (ownt (.slice xa xn xc) x) (by simp)).1).vin)) (fun U hU => by have C := CmL.join_any U ht ht h h xa xa xn xc xn xc x x HL.out HL.out (((show OwnT u52 (.slice xa xn xc) x from (H53.out.all (ownt (.slice xa xn xc) x) (by simp)).1).vin).below hU) (((show OwnT u52 (.slice xa xn xc) x from (H53.out.all (ownt (.slice xa xn xc) x) (by simp)).1).vin).below hU) (by have := HN1.out; have := HN.out; have := HVL.out; first | omega | (have e1 := (((show OwnT u52 (.slice xa xn xc) x from (H53.out.all (ownt (.slice xa xn xc) x) (by simp)).1).vin).below hU).len; have e2 := (((show OwnT u52 (.slice xa xn xc) x from (H53.out.all (ownt (.slice xa xn xc) x) (by simp)).1).vin).below hU).len; omega)) (by have := HN1.out; have := HN.out; have := HVL.out; first | omega | (have e1 := (((show OwnT u52 (.slice xa xn xc) x from (H53.out.all (ownt (.slice xa xn xc) x) (by simp)).1).vin).below hU).len; have e2 := (((show OwnT u52 (.slice xa xn xc) x from (H53.out.all (ownt (.slice xa xn xc) x) (by simp)).1).vin).below hU).len; omega)); unfold CmL.JP CmL.joinO at C; rw [if_neg (by simp [HC2.out]), if_neg (by simp [HC2.out]), if_neg (by simp), HM.out.2.2.2] at C; exact C)) ?_
        rintro u54 hb
        simp only [Act.put, List.setIfInBounds_toArray, List.set_cons_succ, List.set_cons_zero]
        have H55 := WirS.hide (H53.out.more hb)
        clear H53
        clear hb
        refine sV (.bool true) (u54) (by kernel_rfl) (by kernel_rfl) ?_
        simp only [Act.put, List.setIfInBounds_toArray, List.set_cons_succ, List.set_cons_zero]
        go_wp2_with fail
        go_ret
        exact ⟨rfl, H55.out.low⟩
      by_cases hk1 : k < on
      · have hpos : (0 : Int) < (left.length : Int) := by omega
        have hz2 : ((left.length : Int) == 0) = false := by simp; exact fun h => hz (by rw [h]; rfl)
        have hko : (k : Int) < (on : Int) := by omega
        obtain ⟨OB, oo, rfl, hco⟩ := HO.out.at' HB.out.low hk1
        have co : wr.cell? ⟨OB, oo + k, none⟩ = some (.int .i64 (fo k)) := hco
        have hp := KitB.pick_range (fo k) (left.length : Int) (by omega)
        have HPK := WirS.hide (fun U => KitB.pick_any U (fo k) (left.length : Int) (by omega) (by omega))
        generalize KitB.pick (fo k) (left.length : Int) = g at HPK hp
        obtain ⟨K, rfl⟩ := Int.eq_ofNat_of_zero_le hp.1
        have hKl : K < left.length := by omega
        clear hp hco
        go_upto_region 13 with (go_at_call 48; refine (HPK.out _).mono ?_; rintro e _ ⟨rfl, rfl⟩)
        clear co HPK hko hpos hz2
        refine wp_region_lit ?_
        obtain ⟨g, cur, rfl, _⟩ := CmI.OwnT.rw' (show OwnT wr (.slice la left.length lc) left from (HB.out.all (ownt (.slice la left.length lc) left) (by simp)).1) (by omega)
        obtain ⟨v, B0, o0, hx, hmem, e0, _, hr⟩ := ((show OwnT wr (.slice (some ⟨g, 0, none⟩) left.length lc) left from (HB.out.all (ownt (.slice (some ⟨g, 0, none⟩) left.length lc) left) (by simp)).1).vin).cell (i := K) hKl
        cases e0
        rw [Nat.zero_add] at hr
        obtain ⟨hv1, hv2, hv3, hv4, hv5, hg1, hg2⟩ := HG.out.step HUP.out hx
        have hvok := ((show OwnT wr (.slice (some ⟨g, 0, none⟩) left.length lc) left from (HB.out.all (ownt (.slice (some ⟨g, 0, none⟩) left.length lc) left) (by simp)).1).vin).ok v hmem
        have hwl := without_len hKl
        refine sV (.slice (some ⟨g, 0, none⟩) left.length lc) (wr) (by kernel_rfl) (by kernel_rfl) ?_
        simp only [Act.put, List.setIfInBounds_toArray, List.set_cons_succ, List.set_cons_zero]
        refine sV (.int .i64 (K : Int)) (wr) (by kernel_rfl) (by kernel_rfl) ?_
        simp only [Act.put, List.setIfInBounds_toArray, List.set_cons_succ, List.set_cons_zero]
        refine sV (.pointer (some ⟨g, K * 2, none⟩)) wr (by kernel_rfl) (op2 _ _ _ _ g left.length lc K (by rfl) (by kernel_rfl) (by kernel_rfl) hKl wr) ?_
        simp only [Act.put, List.setIfInBounds_toArray, List.set_cons_succ, List.set_cons_zero]
        refine wpList_load_mid' (by kernel_rfl) _ _ (by rfl) g (K * 2) (by kernel_rfl) v.cells _ hr Try.underlying119 (by rfl) (by kernel_rfl) ?_
        simp only [Act.put, List.setIfInBounds_toArray, List.set_cons_succ, List.set_cons_zero]
        refine sV (.pointer (some ⟨wr.heap.size, 0, none⟩)) (wr.alloc (.cells (⟨0, 0⟩ : Vt).cells.toArray TV)) (by kernel_rfl) (by kernel_rfl) ?_
        simp only [Act.put, List.setIfInBounds_toArray, List.set_cons_succ, List.set_cons_zero]
        obtain ⟨L56, eL56⟩ : ∃ A, wr.heap.size = A := ⟨_, rfl⟩
        have hbL56 := bag_box (T := TV) (cs := (⟨0, 0⟩ : Vt).cells) (X := L56) HB.out eL56.symm (w' := wr.alloc (.cells (⟨0, 0⟩ : Vt).cells.toArray TV)) (by rw [← eL56]; exact At.new _ _ _) (Below.alloc (Below.refl _ _) (Nat.le_refl _) _)
        rw [eL56]
        clear eL56
        generalize World.alloc wr _ = u57 at *
        have H58 := WirS.hide (hbL56)
        clear HB
        clear hbL56
        refine stepStore (by rfl) _ _ _ (by rfl) L56 v.cells (by kernel_rfl) (by kernel_rfl) H58.out.head 2 (by kernel_rfl) (by rfl) (by rfl) (by kernel_rfl) ?_
        simp only [Act.put]
        have H60 := WirS.hide (bag_row H58.out v.cells)
        clear H58
        generalize World.setRow u57 L56 _ = u59 at *
        have HX := WirS.hide hx
        have HST := WirS.hide (And.intro hv1 (And.intro hv2 (And.intro hv3 (And.intro hv4 hv5))))
        have HG1 := WirS.hide hg1
        have HG2 := WirS.hide hg2
        have HVO := WirS.hide hvok
        have HWL := WirS.hide hwl
        have HCAP := WirS.hide ((show OwnT u59 (.slice (some ⟨g, 0, none⟩) left.length lc) left from (H60.out.all (ownt (.slice (some ⟨g, 0, none⟩) left.length lc) left) (by simp)).1).vin).cap
        clear hx hmem hr hv1 hv2 hv3 hv4 hv5 hg1 hg2 hvok hwl
        go_upto_region 14 with fail
        have HZ61 : Hid (Bag w u59.drew [box TV L56 v.cells, box TC A (ccl ht h (.slice aa an ac)), box TC B (ccl ht h (.slice xa xn xc)), box TC C (ccl ht h (.slice ya yn yc)), ownt (.slice (some ⟨g, 0, none⟩) left.length lc) left, ownt (.slice aa an ac) al, ownt (.slice xa xn xc) x, ownt (.slice ya yn yc) y, box TC X (ccl ht h (.slice a n c))]) := WirS.hide (H60.out.more (below_drewN (Below.refl _ _) 1))
        clear H60
        refine wp_region_noPanic ?_
        refine wp_region_held_drew (S := (fun _ : World => True)) (by kernel_rfl) trivial (fun hHeld => ?_)
        generalize World.drew u59 = z62 at *
        refine' wpAnyH_take (i := 1) (oi := _) (v := .slice (some ⟨g, 0, none⟩) left.length lc) rfl (by kernel_rfl) (by kernel_rfl) (by kernel_rfl) (fun _ _ _ h => h) (Or.inl ⟨by kernel_rfl, ?hy1⟩) (by assumption) ?rest1
        case hy1 =>
          intro W _
          kernel_rfl
        case rest1 =>
        try simp only [List.getElem_toArray, List.getElem_cons_succ, List.getElem_cons_zero, Act.put, List.setIfInBounds_toArray, List.set_cons_zero, List.set_cons_succ]
        refine' wpAnyH_take (i := 2) (oi := _) (v := .int .i64 (K : Int)) rfl (by kernel_rfl) (by kernel_rfl) (by kernel_rfl) (fun _ _ _ h => h) (Or.inl ⟨by kernel_rfl, ?hy2⟩) (by assumption) ?rest2
        case hy2 =>
          intro W _
          kernel_rfl
        case rest2 =>
        try simp only [List.getElem_toArray, List.getElem_cons_succ, List.getElem_cons_zero, Act.put, List.setIfInBounds_toArray, List.set_cons_zero, List.set_cons_succ]
        refine' wpAnyH_take (i := 3) (oi := _) (v := .slice (some ⟨g, 0, none⟩) K lc) rfl (by kernel_rfl) (by kernel_rfl) (by kernel_rfl) (fun _ _ _ h => h) (Or.inl ⟨by kernel_rfl, ?hy3⟩) (by assumption) ?rest3
        case hy3 =>
          intro W _
          exact ((fun W => slopH (y := .tmp 72) (l := .int .i64 (K : Int)) rfl (by kernel_rfl) (by kernel_rfl) (slB g left.length lc K (by have := HCAP.out; omega) W))) W
        case rest3 =>
        try simp only [List.getElem_toArray, List.getElem_cons_succ, List.getElem_cons_zero, Act.put, List.setIfInBounds_toArray, List.set_cons_zero, List.set_cons_succ]
        refine' wpAnyH_take (i := 5) (oi := _) (v := .slice (some ⟨g, 0, none⟩) left.length lc) rfl (by kernel_rfl) (by kernel_rfl) (by kernel_rfl) (fun _ _ _ h => h) (Or.inl ⟨by kernel_rfl, ?hy5⟩) (by assumption) ?rest5
        case hy5 =>
          intro W _
          kernel_rfl
        case rest5 =>
        try simp only [List.getElem_toArray, List.getElem_cons_succ, List.getElem_cons_zero, Act.put, List.setIfInBounds_toArray, List.set_cons_zero, List.set_cons_succ]
        refine' wpAnyH_take (i := 6) (oi := _) (v := .int .i64 (K : Int)) rfl (by kernel_rfl) (by kernel_rfl) (by kernel_rfl) (fun _ _ _ h => h) (Or.inl ⟨by kernel_rfl, ?hy6⟩) (by assumption) ?rest6
        case hy6 =>
          intro W _
          kernel_rfl
        case rest6 =>
        try simp only [List.getElem_toArray, List.getElem_cons_succ, List.getElem_cons_zero, Act.put, List.setIfInBounds_toArray, List.set_cons_zero, List.set_cons_succ]
        refine' wpAnyH_take (i := 7) (oi := _) (v := .int .i64 ((K + 1 : Nat) : Int)) rfl (by kernel_rfl) (by kernel_rfl) (by kernel_rfl) (fun _ _ _ h => h) (Or.inl ⟨by kernel_rfl, ?hy7⟩) (by assumption) ?rest7
        case hy7 =>
          intro W _
          exact ((fun W => addI (x := .tmp 76) K (by omega) rfl (by kernel_rfl) (by kernel_rfl) W)) W
        case rest7 =>
        try simp only [List.getElem_toArray, List.getElem_cons_succ, List.getElem_cons_zero, Act.put, List.setIfInBounds_toArray, List.set_cons_zero, List.set_cons_succ]
        refine' wpAnyH_take (i := 8) (oi := _) (v := .slice (sa2 (some ⟨g, 0, none⟩) lc (K + 1)) (left.length - (K + 1)) (lc - (K + 1))) rfl (by kernel_rfl) (by kernel_rfl) (by kernel_rfl) (fun _ _ _ h => h) (Or.inl ⟨by kernel_rfl, ?hy8⟩) (by assumption) ?rest8
        case hy8 =>
          intro W _
          exact ((fun W => slopL (y := .tmp 77) (l := .int .i64 ((K + 1 : Nat) : Int)) rfl (by kernel_rfl) (by kernel_rfl) (slC (some ⟨g, 0, none⟩) left.length lc (K + 1) (by omega) W))) W
        case rest8 =>
        try simp only [List.getElem_toArray, List.getElem_cons_succ, List.getElem_cons_zero, Act.put, List.setIfInBounds_toArray, List.set_cons_zero, List.set_cons_succ]
        refine wpAnyH_ready (rs := [0]) (by kernel_rfl) (by simp) ?_
        refine AllReadyH.cons rfl (fun KK hK => ?_) AllReadyH.nil
        rw [if_pos (by kernel_rfl)]
        refine wp_value (w' := z62.alloc (.cells #[] TV)) (.slice (some ⟨z62.heap.size, 0, none⟩) 0 0) (by kernel_rfl) ?_
        try simp only [List.getElem_toArray, List.getElem_cons_zero, Act.put, List.setIfInBounds_toArray, List.set_cons_zero, List.set_cons_succ]
        have hbe := bag_ownt HZ61.out (ownt_new z62) (fun q hq => by simp [Value.ownBlock] at hq; omega) (Below.alloc (Below.refl _ _) (Nat.le_refl _) _)
        obtain ⟨E64, eE⟩ : ∃ A, z62.heap.size = A := ⟨_, rfl⟩
        rw [eE] at hbe ⊢
        clear eE
        generalize World.alloc z62 _ = z63 at *
        have H65 := WirS.hide (hbe)
        clear HZ61
        clear hbe
        refine hK.out _ _ trivial (fun hHeld => ?_)
        clear hK KK
        obtain ⟨v1, q1, r1, o1, f1, n1⟩ := app_in z63 (.slice (some ⟨E64, 0, none⟩) 0 0) [] (left.take K) _ _ _ H65.out.head (pre_in ((show OwnT z63 (.slice (some ⟨g, 0, none⟩) left.length lc) left from (H65.out.all (ownt (.slice (some ⟨g, 0, none⟩) left.length lc) left) (by simp)).1).vin) K (by omega)) (by have := List.length_take_le K left; simp only [List.length_nil]; omega)
        rw [List.nil_append] at o1
        refine wpAnyH_ready (rs := [4]) (by kernel_rfl) (by simp) ?_
        refine AllReadyH.cons rfl (fun KK hK => ?_) AllReadyH.nil
        rw [if_pos (by kernel_rfl)]
        refine step_app TL TL (.tmp 70) (.tmp 73) (by kernel_rfl) _ _ (by kernel_rfl) (by kernel_rfl) v1 q1 r1 ?_
        try simp only [List.getElem_toArray, List.getElem_cons_succ, List.getElem_cons_zero, Act.put, List.setIfInBounds_toArray, List.set_cons_zero, List.set_cons_succ]
        have H66 := WirS.hide (H65.out.act (o' := ownt v1 (left.take K)) f1 o1 n1)
        clear H65
        clear r1 o1 f1 n1
        refine hK.out _ _ trivial (fun hHeld => ?_)
        clear hK KK
        obtain ⟨v2, q2, r2, o2, f2, n2⟩ := app_in q1 v1 (left.take K) (left.drop (K + 1)) _ _ _ H66.out.head (suf_in ((show OwnT q1 (.slice (some ⟨g, 0, none⟩) left.length lc) left from (H66.out.all (ownt (.slice (some ⟨g, 0, none⟩) left.length lc) left) (by simp)).1).vin) (K + 1) (by omega)) (by rw [List.length_take, List.length_drop]; omega)
        change OwnT q2 v2 (without left K) at o2
        refine wpAnyH_ready (rs := [9]) (by kernel_rfl) (by simp) ?_
        refine AllReadyH.cons rfl (fun KK hK => ?_) AllReadyH.nil
        rw [if_pos (by kernel_rfl)]
        refine step_app TL TL (.tmp 74) (.tmp 78) (by kernel_rfl) _ _ (by kernel_rfl) (by kernel_rfl) v2 q2 r2 ?_
        try simp only [List.getElem_toArray, List.getElem_cons_succ, List.getElem_cons_zero, Act.put, List.setIfInBounds_toArray, List.set_cons_zero, List.set_cons_succ]
        have H67 := WirS.hide (H66.out.act (o' := ownt v2 (without left K)) f2 o2 n2)
        clear H66
        clear r2 o2 f2 n2
        refine hK.out _ _ trivial (fun hHeld => ?_)
        clear hK KK
        refine' wpAnyH_take (i := 10) (oi := _) (v := v2) rfl (by kernel_rfl) (by kernel_rfl) (by kernel_rfl) (fun _ _ _ h => h) (Or.inl ⟨by kernel_rfl, ?hy10⟩) (by assumption) ?rest10
        case hy10 =>
          intro W _
          kernel_rfl
        case rest10 =>
        try simp only [List.getElem_toArray, List.getElem_cons_succ, List.getElem_cons_zero, Act.put, List.setIfInBounds_toArray, List.set_cons_zero, List.set_cons_succ]
        refine wpAnyH_done (by kernel_rfl) ?_ _
        refine NoPanic.normal ?_
        clear hHeld
        obtain ⟨l2a, l2c, rfl⟩ : ∃ xa xc, v2 = .slice xa (without left K).length xc := (show OwnT q2 v2 (without left K) from (H67.out.all (ownt v2 (without left K)) (by simp)).1).len_of
        go_upto_region 15 with fail
        refine wp_region_lit ?_
        refine sL (by kernel_rfl) _ _ (by rfl) _ (by kernel_rfl) (H67.out.all (box TC A (ccl ht h (.slice aa an ac))) (by simp)).1 _ _ UC rfl (by kernel_rfl) (by rw [ccl_len _ _ _ HL.out]) ?_
        simp only [Act.put, List.setIfInBounds_toArray, List.set_cons_succ, List.set_cons_zero]
        refine sL (by kernel_rfl) _ _ (by rfl) _ (by kernel_rfl) (H67.out.all (box TV L56 v.cells) (by simp)).1 _ _ Try.underlying119 rfl (by kernel_rfl) (by rfl) ?_
        simp only [Act.put, List.setIfInBounds_toArray, List.set_cons_succ, List.set_cons_zero]
        refine sCx (by kernel_rfl) (by kernel_rfl) (add_ok q2 ht h aa an ac al v HL.out ((show OwnT q2 (.slice aa an ac) al from (H67.out.all (ownt (.slice aa an ac) al) (by simp)).1).vin) (by have e1 := ((show OwnT q2 (.slice aa an ac) al from (H67.out.all (ownt (.slice aa an ac) al) (by simp)).1).vin).len; have e2 := HN1.out; omega) HVO.out HC1.out HST.out.1 (by rw [HST.out.2.1]; rfl)) ?_
        rintro e u68 ⟨da, dn, dc, rfl, ho, hnb, hb⟩
        refine ⟨_, rfl, ?_⟩
        simp only [Act.put, List.setIfInBounds_toArray, List.set_cons_succ, List.set_cons_zero]
        have H69 := WirS.hide (bag_ownt H67.out ho hnb hb)
        clear H67
        clear ho hnb hb
        refine sV (.tuple #[.agg (ccl ht h (.slice da dn dc)).toArray, .int .i64 0]) (u68) (by kernel_rfl) (by kernel_rfl) ?_
        simp only [Act.put, List.setIfInBounds_toArray, List.set_cons_succ, List.set_cons_zero]
        refine sV (.agg (ccl ht h (.slice da dn dc)).toArray) (u68) (by kernel_rfl) (by kernel_rfl) ?_
        simp only [Act.put, List.setIfInBounds_toArray, List.set_cons_succ, List.set_cons_zero]
        refine sV (.int .i64 0) (u68) (by kernel_rfl) (by kernel_rfl) ?_
        simp only [Act.put, List.setIfInBounds_toArray, List.set_cons_succ, List.set_cons_zero]
        refine sV (.pointer (some ⟨u68.heap.size, 0, none⟩)) (u68.alloc (.cells zcm.toArray TC)) (by kernel_rfl) (by kernel_rfl) ?_
        simp only [Act.put, List.setIfInBounds_toArray, List.set_cons_succ, List.set_cons_zero]
        obtain ⟨L70, eL70⟩ : ∃ A, u68.heap.size = A := ⟨_, rfl⟩
        have hbL70 := bag_box (T := TC) (cs := zcm) (X := L70) H69.out eL70.symm (w' := u68.alloc (.cells zcm.toArray TC)) (by rw [← eL70]; exact At.new _ _ _) (Below.alloc (Below.refl _ _) (Nat.le_refl _) _)
        rw [eL70]
        clear eL70
        generalize World.alloc u68 _ = u71 at *
        have H72 := WirS.hide (hbL70)
        clear H69
        clear hbL70
        refine stepStore (by rfl) _ _ _ (by rfl) L70 (ccl ht h (.slice da dn dc)) (by kernel_rfl) (by kernel_rfl) H72.out.head 34 (by kernel_rfl) (by rfl) (ccl_len _ _ _ HL.out) (one_ccl _ _ _ _ _) ?_
        simp only [Act.put]
        have H74 := WirS.hide (bag_row H72.out (ccl ht h (.slice da dn dc)))
        clear H72
        generalize World.setRow u71 L70 _ = u73 at *
        go_upto_region 16 with fail
        refine wp_region_lit ?_
        refine sL (by kernel_rfl) _ _ (by rfl) _ (by kernel_rfl) (H74.out.all (box TC L70 (ccl ht h (.slice da dn dc))) (by simp)).1 _ _ UC rfl (by kernel_rfl) (by rw [ccl_len _ _ _ HL.out]) ?_
        simp only [Act.put, List.setIfInBounds_toArray, List.set_cons_succ, List.set_cons_zero]
        refine sV (.pointer (some ⟨L56, 0, none⟩)) (u73) (by kernel_rfl) (by kernel_rfl) ?_
        simp only [Act.put, List.setIfInBounds_toArray, List.set_cons_succ, List.set_cons_zero]
        refine sP (by kernel_rfl) _ _ (by rfl) ⟨L56, 0, none⟩ (by kernel_rfl) (.int .i64 v.at') ((show At u73 L56 TV v.cells from (H74.out.all (box TV L56 v.cells) (by simp)).1).cell 0) (by kernel_rfl) ?_
        simp only [Act.put, List.setIfInBounds_toArray, List.set_cons_succ, List.set_cons_zero]
        refine sC (R := fun w' => Below u73.heap.size u73 w') (v := .tuple #[.int .u64 v.sg, .bool true]) (by kernel_rfl) (by kernel_rfl) (by have C := of_any u73 ht h da dn dc (insV al v) v.at' HL.out ((show OwnT u73 (.slice da dn dc) (insV al v) from (H74.out.all (ownt (.slice da dn dc) (insV al v)) (by simp)).1).vin); rw [show ofS v.at' (insV al v) = v.sg from by unfold ofS; rw [HST.out.2.2.2.2]; rfl, show (ofV v.at' (insV al v)).isSome = true from by rw [HST.out.2.2.2.2]; rfl] at C; exact C) ?_
        rintro u75 hb
        simp only [Act.put, List.setIfInBounds_toArray, List.set_cons_succ, List.set_cons_zero]
        have H76 := WirS.hide (H74.out.more hb)
        clear H74
        clear hb
        refine sV (.tuple #[.int .u64 v.sg, .bool true]) (u75) (by kernel_rfl) (by kernel_rfl) ?_
        simp only [Act.put, List.setIfInBounds_toArray, List.set_cons_succ, List.set_cons_zero]
        refine sV (.int .u64 v.sg) (u75) (by kernel_rfl) (by kernel_rfl) ?_
        simp only [Act.put, List.setIfInBounds_toArray, List.set_cons_succ, List.set_cons_zero]
        refine sV (.bool true) (u75) (by kernel_rfl) (by kernel_rfl) ?_
        simp only [Act.put, List.setIfInBounds_toArray, List.set_cons_succ, List.set_cons_zero]
        go_upto_region 17 with fail
        refine wp_region_lit ?_
        refine sV (.int .i64 0) (u75) (by kernel_rfl) (by kernel_rfl) ?_
        simp only [Act.put, List.setIfInBounds_toArray, List.set_cons_succ, List.set_cons_zero]
        refine sV (.bool false) (u75) (by kernel_rfl) (by kernel_rfl) ?_
        simp only [Act.put, List.setIfInBounds_toArray, List.set_cons_succ, List.set_cons_zero]
        refine sV (.bool false) (u75) (by kernel_rfl) (by kernel_rfl) ?_
        simp only [Act.put, List.setIfInBounds_toArray, List.set_cons_succ, List.set_cons_zero]
        refine sV (.bool true) (u75) (by kernel_rfl) (by kernel_rfl) ?_
        simp only [Act.put, List.setIfInBounds_toArray, List.set_cons_succ, List.set_cons_zero]
        refine sV (.bool false) (u75) (by kernel_rfl) (by kernel_rfl) ?_
        simp only [Act.put, List.setIfInBounds_toArray, List.set_cons_succ, List.set_cons_zero]
        refine sV (.bool false) (u75) (by kernel_rfl) (by kernel_rfl) ?_
        simp only [Act.put, List.setIfInBounds_toArray, List.set_cons_succ, List.set_cons_zero]
        refine sV (.bool false) (u75) (by kernel_rfl) (by kernel_rfl) ?_
        simp only [Act.put, List.setIfInBounds_toArray, List.set_cons_succ, List.set_cons_zero]
        refine sV (.int .u64 v.sg) (u75) (by kernel_rfl) (by kernel_rfl) ?_
        simp only [Act.put, List.setIfInBounds_toArray, List.set_cons_succ, List.set_cons_zero]
        refine sV (.pointer (some ⟨L56, 1, none⟩)) (u75) (by kernel_rfl) (by kernel_rfl) ?_
        simp only [Act.put, List.setIfInBounds_toArray, List.set_cons_succ, List.set_cons_zero]
        refine sP (by kernel_rfl) _ _ (by rfl) ⟨L56, 1, none⟩ (by kernel_rfl) (.int .u64 v.sg) ((show At u75 L56 TV v.cells from (H76.out.all (box TV L56 v.cells) (by simp)).1).cell 1) (by kernel_rfl) ?_
        simp only [Act.put, List.setIfInBounds_toArray, List.set_cons_succ, List.set_cons_zero]
        refine sB (by kernel_rfl) .neq 37 _ _ _ (by rfl) (.int .u64 v.sg) (.int .u64 v.sg) (by kernel_rfl) (by kernel_rfl) (.bool false) (neU v.sg u75) (by kernel_rfl) ?_
        simp only [Act.put, List.setIfInBounds_toArray, List.set_cons_succ, List.set_cons_zero]
        refine sV (.bool false) (u75) (by kernel_rfl) (by kernel_rfl) ?_
        simp only [Act.put, List.setIfInBounds_toArray, List.set_cons_succ, List.set_cons_zero]
        go_upto_region 19 with fail
        refine wp_region_lit ?_
        refine sL (by kernel_rfl) _ _ (by rfl) _ (by kernel_rfl) (H76.out.all (box TC L70 (ccl ht h (.slice da dn dc))) (by simp)).1 _ _ UC rfl (by kernel_rfl) (by rw [ccl_len _ _ _ HL.out]) ?_
        simp only [Act.put, List.setIfInBounds_toArray, List.set_cons_succ, List.set_cons_zero]
        have H77 := WirS.hide (H76.out.perm (show [box TC L70 (ccl ht h (.slice da dn dc)), ownt (.slice da dn dc) (insV al v), ownt (.slice l2a (without left K).length l2c) (without left K), box TV L56 v.cells, box TC A (ccl ht h (.slice aa an ac)), box TC B (ccl ht h (.slice xa xn xc)), box TC C (ccl ht h (.slice ya yn yc)), ownt (.slice (some ⟨g, 0, none⟩) left.length lc) left, ownt (.slice aa an ac) al, ownt (.slice xa xn xc) x, ownt (.slice ya yn yc) y, box TC X (ccl ht h (.slice a n c))].Perm [box TC A (ccl ht h (.slice aa an ac)), box TC L70 (ccl ht h (.slice da dn dc)), ownt (.slice da dn dc) (insV al v), ownt (.slice l2a (without left K).length l2c) (without left K), box TV L56 v.cells, box TC B (ccl ht h (.slice xa xn xc)), box TC C (ccl ht h (.slice ya yn yc)), ownt (.slice (some ⟨g, 0, none⟩) left.length lc) left, ownt (.slice aa an ac) al, ownt (.slice xa xn xc) x, ownt (.slice ya yn yc) y, box TC X (ccl ht h (.slice a n c))] from ((List.perm_middle (l₁ := [box TC L70 (ccl ht h (.slice da dn dc)), ownt (.slice da dn dc) (insV al v), ownt (.slice l2a (without left K).length l2c) (without left K), box TV L56 v.cells])).trans (.cons _ ((List.perm_middle (l₁ := [])).trans (.cons _ ((List.perm_middle (l₁ := [])).trans (.cons _ ((List.perm_middle (l₁ := [])).trans (.cons _ ((List.perm_middle (l₁ := [])).trans (.cons _ ((List.perm_middle (l₁ := [])).trans (.cons _ ((List.perm_middle (l₁ := [])).trans (.cons _ ((List.perm_middle (l₁ := [])).trans (.cons _ ((List.perm_middle (l₁ := [])).trans (.cons _ ((List.perm_middle (l₁ := [])).trans (.cons _ ((List.perm_middle (l₁ := [])).trans (.cons _ ((List.perm_middle (l₁ := [])).trans (.cons _ (.refl _)))))))))))))))))))))))))))
        clear H76
        refine stepStore (by rfl) _ _ _ (by rfl) A (ccl ht h (.slice da dn dc)) (by kernel_rfl) (by kernel_rfl) H77.out.head 34 (by kernel_rfl) (ccl_len _ _ _ HL.out) (ccl_len _ _ _ HL.out) (one_ccl _ _ _ _ _) ?_
        simp only [Act.put]
        have H79 := WirS.hide (bag_row H77.out (ccl ht h (.slice da dn dc)))
        clear H77
        generalize World.setRow u75 A _ = u78 at *
        by_cases hk2 : k < pn
        · by_cases hk3 : fp k = true
          · go_upto_region 20 with fail
            refine wp_region_lit ?_
            obtain ⟨PB, po, rfl, hcp⟩ := HP.out.at' H79.out.low hk2
            rw [hk3] at hcp
            refine sV (.int .i64 (k : Int)) (u78) (by kernel_rfl) (by kernel_rfl) ?_
            simp only [Act.put, List.setIfInBounds_toArray, List.set_cons_succ, List.set_cons_zero]
            refine sV (.slice (some ⟨PB, po, none⟩) pn pc) (u78) (by kernel_rfl) (by kernel_rfl) ?_
            simp only [Act.put, List.setIfInBounds_toArray, List.set_cons_succ, List.set_cons_zero]
            refine sV (.int .i64 (pn : Int)) (u78) (by kernel_rfl) (by kernel_rfl) ?_
            simp only [Act.put, List.setIfInBounds_toArray, List.set_cons_succ, List.set_cons_zero]
            refine sV (.bool (decide ((k : Int) < (pn : Int)))) (u78) (by kernel_rfl) (by kernel_rfl) ?_
            simp only [Act.put, List.setIfInBounds_toArray, List.set_cons_succ, List.set_cons_zero]
            rw [show decide ((k : Int) < (pn : Int)) = true by simp; omega]
            refine sV (.bool true) (u78) (by kernel_rfl) (by kernel_rfl) ?_
            simp only [Act.put, List.setIfInBounds_toArray, List.set_cons_succ, List.set_cons_zero]
            refine sV (.slice (some ⟨PB, po, none⟩) pn pc) (u78) (by kernel_rfl) (by kernel_rfl) ?_
            simp only [Act.put, List.setIfInBounds_toArray, List.set_cons_succ, List.set_cons_zero]
            refine sV (.int .i64 (k : Int)) (u78) (by kernel_rfl) (by kernel_rfl) ?_
            simp only [Act.put, List.setIfInBounds_toArray, List.set_cons_succ, List.set_cons_zero]
            refine sV (.pointer (some ⟨PB, po + k, none⟩)) u78 (by kernel_rfl) (opb _ _ _ _ PB po pn pc k (by rfl) (by kernel_rfl) (by kernel_rfl) hk2 u78) ?_
            simp only [Act.put, List.setIfInBounds_toArray, List.set_cons_succ, List.set_cons_zero]
            refine sP (by kernel_rfl) _ _ (by rfl) ⟨PB, po + k, none⟩ (by kernel_rfl) (.bool true) hcp (by kernel_rfl) ?_
            simp only [Act.put, List.setIfInBounds_toArray, List.set_cons_succ, List.set_cons_zero]
            refine sV (.bool true) (u78) (by kernel_rfl) (by kernel_rfl) ?_
            simp only [Act.put, List.setIfInBounds_toArray, List.set_cons_succ, List.set_cons_zero]
            go_upto_region 21 with fail
            refine wp_region_lit ?_
            refine sL (by kernel_rfl) _ _ (by rfl) _ (by kernel_rfl) (H79.out.all (box TC B (ccl ht h (.slice xa xn xc))) (by simp)).1 _ _ UC rfl (by kernel_rfl) (by rw [ccl_len _ _ _ HL.out]) ?_
            simp only [Act.put, List.setIfInBounds_toArray, List.set_cons_succ, List.set_cons_zero]
            refine sL (by kernel_rfl) _ _ (by rfl) _ (by kernel_rfl) (H79.out.all (box TV L56 v.cells) (by simp)).1 _ _ Try.underlying119 rfl (by kernel_rfl) (by rfl) ?_
            simp only [Act.put, List.setIfInBounds_toArray, List.set_cons_succ, List.set_cons_zero]
            refine sCx (by kernel_rfl) (by kernel_rfl) (add_ok u78 ht h xa xn xc x v HL.out ((show OwnT u78 (.slice xa xn xc) x from (H79.out.all (ownt (.slice xa xn xc) x) (by simp)).1).vin) (by have e1 := ((show OwnT u78 (.slice xa xn xc) x from (H79.out.all (ownt (.slice xa xn xc) x) (by simp)).1).vin).len; have e2 := HN1.out; omega) HVO.out HC2.out HST.out.1 (by rw [HST.out.2.2.1]; rfl)) ?_
            rintro e u80 ⟨sa, sn, sc, rfl, ho, hnb, hb⟩
            refine ⟨_, rfl, ?_⟩
            simp only [Act.put, List.setIfInBounds_toArray, List.set_cons_succ, List.set_cons_zero]
            have H81 := WirS.hide (bag_ownt H79.out ho hnb hb)
            clear H79
            clear ho hnb hb
            refine sV (.tuple #[.agg (ccl ht h (.slice sa sn sc)).toArray, .int .i64 0]) (u80) (by kernel_rfl) (by kernel_rfl) ?_
            simp only [Act.put, List.setIfInBounds_toArray, List.set_cons_succ, List.set_cons_zero]
            refine sV (.agg (ccl ht h (.slice sa sn sc)).toArray) (u80) (by kernel_rfl) (by kernel_rfl) ?_
            simp only [Act.put, List.setIfInBounds_toArray, List.set_cons_succ, List.set_cons_zero]
            refine sV (.int .i64 0) (u80) (by kernel_rfl) (by kernel_rfl) ?_
            simp only [Act.put, List.setIfInBounds_toArray, List.set_cons_succ, List.set_cons_zero]
            have H82 := WirS.hide (H81.out.perm (show [ownt (.slice sa sn sc) (insV x v), box TC A (ccl ht h (.slice da dn dc)), box TC L70 (ccl ht h (.slice da dn dc)), ownt (.slice da dn dc) (insV al v), ownt (.slice l2a (without left K).length l2c) (without left K), box TV L56 v.cells, box TC B (ccl ht h (.slice xa xn xc)), box TC C (ccl ht h (.slice ya yn yc)), ownt (.slice (some ⟨g, 0, none⟩) left.length lc) left, ownt (.slice aa an ac) al, ownt (.slice xa xn xc) x, ownt (.slice ya yn yc) y, box TC X (ccl ht h (.slice a n c))].Perm [box TC B (ccl ht h (.slice xa xn xc)), ownt (.slice sa sn sc) (insV x v), box TC A (ccl ht h (.slice da dn dc)), box TC L70 (ccl ht h (.slice da dn dc)), ownt (.slice da dn dc) (insV al v), ownt (.slice l2a (without left K).length l2c) (without left K), box TV L56 v.cells, box TC C (ccl ht h (.slice ya yn yc)), ownt (.slice (some ⟨g, 0, none⟩) left.length lc) left, ownt (.slice aa an ac) al, ownt (.slice xa xn xc) x, ownt (.slice ya yn yc) y, box TC X (ccl ht h (.slice a n c))] from ((List.perm_middle (l₁ := [ownt (.slice sa sn sc) (insV x v), box TC A (ccl ht h (.slice da dn dc)), box TC L70 (ccl ht h (.slice da dn dc)), ownt (.slice da dn dc) (insV al v), ownt (.slice l2a (without left K).length l2c) (without left K), box TV L56 v.cells])).trans (.cons _ ((List.perm_middle (l₁ := [])).trans (.cons _ ((List.perm_middle (l₁ := [])).trans (.cons _ ((List.perm_middle (l₁ := [])).trans (.cons _ ((List.perm_middle (l₁ := [])).trans (.cons _ ((List.perm_middle (l₁ := [])).trans (.cons _ ((List.perm_middle (l₁ := [])).trans (.cons _ ((List.perm_middle (l₁ := [])).trans (.cons _ ((List.perm_middle (l₁ := [])).trans (.cons _ ((List.perm_middle (l₁ := [])).trans (.cons _ ((List.perm_middle (l₁ := [])).trans (.cons _ ((List.perm_middle (l₁ := [])).trans (.cons _ ((List.perm_middle (l₁ := [])).trans (.cons _ (.refl _)))))))))))))))))))))))))))))
            clear H81
            refine stepStore (by rfl) _ _ _ (by rfl) B (ccl ht h (.slice sa sn sc)) (by kernel_rfl) (by kernel_rfl) H82.out.head 34 (by kernel_rfl) (ccl_len _ _ _ HL.out) (ccl_len _ _ _ HL.out) (one_ccl _ _ _ _ _) ?_
            simp only [Act.put]
            have H84 := WirS.hide (bag_row H82.out (ccl ht h (.slice sa sn sc)))
            clear H82
            generalize World.setRow u80 B _ = u83 at *
            go_wp2_with fail
            go_roundw
            case rel =>
              refine ⟨k + 1, without left K, insV al v, (insV x v), y, l2a, l2c, da, dn, dc, sa, sn, sc, ya, yn, yc, rfl, by go_num, by have h1 := HWL.out; have h2 := HKL.out; omega, HG1.out, ?_⟩
              exact (H84.out.perm (show [box TC B (ccl ht h (.slice sa sn sc)), ownt (.slice sa sn sc) (insV x v), box TC A (ccl ht h (.slice da dn dc)), box TC L70 (ccl ht h (.slice da dn dc)), ownt (.slice da dn dc) (insV al v), ownt (.slice l2a (without left K).length l2c) (without left K), box TV L56 v.cells, box TC C (ccl ht h (.slice ya yn yc)), ownt (.slice (some ⟨g, 0, none⟩) left.length lc) left, ownt (.slice aa an ac) al, ownt (.slice xa xn xc) x, ownt (.slice ya yn yc) y, box TC X (ccl ht h (.slice a n c))].Perm [box TC L70 (ccl ht h (.slice da dn dc)), box TV L56 v.cells, ownt (.slice (some ⟨g, 0, none⟩) left.length lc) left, ownt (.slice aa an ac) al, ownt (.slice xa xn xc) x, box TC A (ccl ht h (.slice da dn dc)), box TC B (ccl ht h (.slice sa sn sc)), box TC C (ccl ht h (.slice ya yn yc)), ownt (.slice l2a (without left K).length l2c) (without left K), ownt (.slice da dn dc) (insV al v), ownt (.slice sa sn sc) (insV x v), ownt (.slice ya yn yc) y, box TC X (ccl ht h (.slice a n c))] from ((List.perm_middle (l₁ := [box TC B (ccl ht h (.slice sa sn sc)), ownt (.slice sa sn sc) (insV x v), box TC A (ccl ht h (.slice da dn dc))])).trans (.cons _ ((List.perm_middle (l₁ := [box TC B (ccl ht h (.slice sa sn sc)), ownt (.slice sa sn sc) (insV x v), box TC A (ccl ht h (.slice da dn dc)), ownt (.slice da dn dc) (insV al v), ownt (.slice l2a (without left K).length l2c) (without left K)])).trans (.cons _ ((List.perm_middle (l₁ := [box TC B (ccl ht h (.slice sa sn sc)), ownt (.slice sa sn sc) (insV x v), box TC A (ccl ht h (.slice da dn dc)), ownt (.slice da dn dc) (insV al v), ownt (.slice l2a (without left K).length l2c) (without left K), box TC C (ccl ht h (.slice ya yn yc))])).trans (.cons _ ((List.perm_middle (l₁ := [box TC B (ccl ht h (.slice sa sn sc)), ownt (.slice sa sn sc) (insV x v), box TC A (ccl ht h (.slice da dn dc)), ownt (.slice da dn dc) (insV al v), ownt (.slice l2a (without left K).length l2c) (without left K), box TC C (ccl ht h (.slice ya yn yc))])).trans (.cons _ ((List.perm_middle (l₁ := [box TC B (ccl ht h (.slice sa sn sc)), ownt (.slice sa sn sc) (insV x v), box TC A (ccl ht h (.slice da dn dc)), ownt (.slice da dn dc) (insV al v), ownt (.slice l2a (without left K).length l2c) (without left K), box TC C (ccl ht h (.slice ya yn yc))])).trans (.cons _ ((List.perm_middle (l₁ := [box TC B (ccl ht h (.slice sa sn sc)), ownt (.slice sa sn sc) (insV x v)])).trans (.cons _ ((List.perm_middle (l₁ := [])).trans (.cons _ ((List.perm_middle (l₁ := [ownt (.slice sa sn sc) (insV x v), ownt (.slice da dn dc) (insV al v), ownt (.slice l2a (without left K).length l2c) (without left K)])).trans (.cons _ ((List.perm_middle (l₁ := [ownt (.slice sa sn sc) (insV x v), ownt (.slice da dn dc) (insV al v)])).trans (.cons _ ((List.perm_middle (l₁ := [ownt (.slice sa sn sc) (insV x v)])).trans (.cons _ ((List.perm_middle (l₁ := [])).trans (.cons _ ((List.perm_middle (l₁ := [])).trans (.cons _ ((List.perm_middle (l₁ := [])).trans (.cons _ (.refl _))))))))))))))))))))))))))))).drop.drop.drop.drop.drop
            case measure => have h1 := HWL.out; simp [vlen]; omega
          · have hk3 : fp k = false := by simpa using hk3
            go_upto_region 20 with fail
            refine wp_region_lit ?_
            obtain ⟨PB, po, rfl, hcp⟩ := HP.out.at' H79.out.low hk2
            rw [hk3] at hcp
            refine sV (.int .i64 (k : Int)) (u78) (by kernel_rfl) (by kernel_rfl) ?_
            simp only [Act.put, List.setIfInBounds_toArray, List.set_cons_succ, List.set_cons_zero]
            refine sV (.slice (some ⟨PB, po, none⟩) pn pc) (u78) (by kernel_rfl) (by kernel_rfl) ?_
            simp only [Act.put, List.setIfInBounds_toArray, List.set_cons_succ, List.set_cons_zero]
            refine sV (.int .i64 (pn : Int)) (u78) (by kernel_rfl) (by kernel_rfl) ?_
            simp only [Act.put, List.setIfInBounds_toArray, List.set_cons_succ, List.set_cons_zero]
            refine sV (.bool (decide ((k : Int) < (pn : Int)))) (u78) (by kernel_rfl) (by kernel_rfl) ?_
            simp only [Act.put, List.setIfInBounds_toArray, List.set_cons_succ, List.set_cons_zero]
            rw [show decide ((k : Int) < (pn : Int)) = true by simp; omega]
            refine sV (.bool true) (u78) (by kernel_rfl) (by kernel_rfl) ?_
            simp only [Act.put, List.setIfInBounds_toArray, List.set_cons_succ, List.set_cons_zero]
            refine sV (.slice (some ⟨PB, po, none⟩) pn pc) (u78) (by kernel_rfl) (by kernel_rfl) ?_
            simp only [Act.put, List.setIfInBounds_toArray, List.set_cons_succ, List.set_cons_zero]
            refine sV (.int .i64 (k : Int)) (u78) (by kernel_rfl) (by kernel_rfl) ?_
            simp only [Act.put, List.setIfInBounds_toArray, List.set_cons_succ, List.set_cons_zero]
            refine sV (.pointer (some ⟨PB, po + k, none⟩)) u78 (by kernel_rfl) (opb _ _ _ _ PB po pn pc k (by rfl) (by kernel_rfl) (by kernel_rfl) hk2 u78) ?_
            simp only [Act.put, List.setIfInBounds_toArray, List.set_cons_succ, List.set_cons_zero]
            refine sP (by kernel_rfl) _ _ (by rfl) ⟨PB, po + k, none⟩ (by kernel_rfl) (.bool false) hcp (by kernel_rfl) ?_
            simp only [Act.put, List.setIfInBounds_toArray, List.set_cons_succ, List.set_cons_zero]
            refine sV (.bool false) (u78) (by kernel_rfl) (by kernel_rfl) ?_
            simp only [Act.put, List.setIfInBounds_toArray, List.set_cons_succ, List.set_cons_zero]
            go_upto_region 22 with fail
            refine wp_region_lit ?_
            refine sL (by kernel_rfl) _ _ (by rfl) _ (by kernel_rfl) (H79.out.all (box TC C (ccl ht h (.slice ya yn yc))) (by simp)).1 _ _ UC rfl (by kernel_rfl) (by rw [ccl_len _ _ _ HL.out]) ?_
            simp only [Act.put, List.setIfInBounds_toArray, List.set_cons_succ, List.set_cons_zero]
            refine sL (by kernel_rfl) _ _ (by rfl) _ (by kernel_rfl) (H79.out.all (box TV L56 v.cells) (by simp)).1 _ _ Try.underlying119 rfl (by kernel_rfl) (by rfl) ?_
            simp only [Act.put, List.setIfInBounds_toArray, List.set_cons_succ, List.set_cons_zero]
            refine sCx (by kernel_rfl) (by kernel_rfl) (add_ok u78 ht h ya yn yc y v HL.out ((show OwnT u78 (.slice ya yn yc) y from (H79.out.all (ownt (.slice ya yn yc) y) (by simp)).1).vin) (by have e1 := ((show OwnT u78 (.slice ya yn yc) y from (H79.out.all (ownt (.slice ya yn yc) y) (by simp)).1).vin).len; have e2 := HN1.out; omega) HVO.out HC3.out HST.out.1 (by rw [HST.out.2.2.2.1]; rfl)) ?_
            rintro e u85 ⟨sa, sn, sc, rfl, ho, hnb, hb⟩
            refine ⟨_, rfl, ?_⟩
            simp only [Act.put, List.setIfInBounds_toArray, List.set_cons_succ, List.set_cons_zero]
            have H86 := WirS.hide (bag_ownt H79.out ho hnb hb)
            clear H79
            clear ho hnb hb
            refine sV (.tuple #[.agg (ccl ht h (.slice sa sn sc)).toArray, .int .i64 0]) (u85) (by kernel_rfl) (by kernel_rfl) ?_
            simp only [Act.put, List.setIfInBounds_toArray, List.set_cons_succ, List.set_cons_zero]
            refine sV (.agg (ccl ht h (.slice sa sn sc)).toArray) (u85) (by kernel_rfl) (by kernel_rfl) ?_
            simp only [Act.put, List.setIfInBounds_toArray, List.set_cons_succ, List.set_cons_zero]
            refine sV (.int .i64 0) (u85) (by kernel_rfl) (by kernel_rfl) ?_
            simp only [Act.put, List.setIfInBounds_toArray, List.set_cons_succ, List.set_cons_zero]
            have H87 := WirS.hide (H86.out.perm (show [ownt (.slice sa sn sc) (insV y v), box TC A (ccl ht h (.slice da dn dc)), box TC L70 (ccl ht h (.slice da dn dc)), ownt (.slice da dn dc) (insV al v), ownt (.slice l2a (without left K).length l2c) (without left K), box TV L56 v.cells, box TC B (ccl ht h (.slice xa xn xc)), box TC C (ccl ht h (.slice ya yn yc)), ownt (.slice (some ⟨g, 0, none⟩) left.length lc) left, ownt (.slice aa an ac) al, ownt (.slice xa xn xc) x, ownt (.slice ya yn yc) y, box TC X (ccl ht h (.slice a n c))].Perm [box TC C (ccl ht h (.slice ya yn yc)), ownt (.slice sa sn sc) (insV y v), box TC A (ccl ht h (.slice da dn dc)), box TC L70 (ccl ht h (.slice da dn dc)), ownt (.slice da dn dc) (insV al v), ownt (.slice l2a (without left K).length l2c) (without left K), box TV L56 v.cells, box TC B (ccl ht h (.slice xa xn xc)), ownt (.slice (some ⟨g, 0, none⟩) left.length lc) left, ownt (.slice aa an ac) al, ownt (.slice xa xn xc) x, ownt (.slice ya yn yc) y, box TC X (ccl ht h (.slice a n c))] from ((List.perm_middle (l₁ := [ownt (.slice sa sn sc) (insV y v), box TC A (ccl ht h (.slice da dn dc)), box TC L70 (ccl ht h (.slice da dn dc)), ownt (.slice da dn dc) (insV al v), ownt (.slice l2a (without left K).length l2c) (without left K), box TV L56 v.cells, box TC B (ccl ht h (.slice xa xn xc))])).trans (.cons _ ((List.perm_middle (l₁ := [])).trans (.cons _ ((List.perm_middle (l₁ := [])).trans (.cons _ ((List.perm_middle (l₁ := [])).trans (.cons _ ((List.perm_middle (l₁ := [])).trans (.cons _ ((List.perm_middle (l₁ := [])).trans (.cons _ ((List.perm_middle (l₁ := [])).trans (.cons _ ((List.perm_middle (l₁ := [])).trans (.cons _ ((List.perm_middle (l₁ := [])).trans (.cons _ ((List.perm_middle (l₁ := [])).trans (.cons _ ((List.perm_middle (l₁ := [])).trans (.cons _ ((List.perm_middle (l₁ := [])).trans (.cons _ ((List.perm_middle (l₁ := [])).trans (.cons _ (.refl _)))))))))))))))))))))))))))))
            clear H86
            refine stepStore (by rfl) _ _ _ (by rfl) C (ccl ht h (.slice sa sn sc)) (by kernel_rfl) (by kernel_rfl) H87.out.head 34 (by kernel_rfl) (ccl_len _ _ _ HL.out) (ccl_len _ _ _ HL.out) (one_ccl _ _ _ _ _) ?_
            simp only [Act.put]
            have H89 := WirS.hide (bag_row H87.out (ccl ht h (.slice sa sn sc)))
            clear H87
            generalize World.setRow u85 C _ = u88 at *
            go_wp2_with fail
            go_roundw
            case rel =>
              refine ⟨k + 1, without left K, insV al v, x, (insV y v), l2a, l2c, da, dn, dc, xa, xn, xc, sa, sn, sc, rfl, by go_num, by have h1 := HWL.out; have h2 := HKL.out; omega, HG2.out, ?_⟩
              exact (H89.out.perm (show [box TC C (ccl ht h (.slice sa sn sc)), ownt (.slice sa sn sc) (insV y v), box TC A (ccl ht h (.slice da dn dc)), box TC L70 (ccl ht h (.slice da dn dc)), ownt (.slice da dn dc) (insV al v), ownt (.slice l2a (without left K).length l2c) (without left K), box TV L56 v.cells, box TC B (ccl ht h (.slice xa xn xc)), ownt (.slice (some ⟨g, 0, none⟩) left.length lc) left, ownt (.slice aa an ac) al, ownt (.slice xa xn xc) x, ownt (.slice ya yn yc) y, box TC X (ccl ht h (.slice a n c))].Perm [box TC L70 (ccl ht h (.slice da dn dc)), box TV L56 v.cells, ownt (.slice (some ⟨g, 0, none⟩) left.length lc) left, ownt (.slice aa an ac) al, ownt (.slice ya yn yc) y, box TC A (ccl ht h (.slice da dn dc)), box TC B (ccl ht h (.slice xa xn xc)), box TC C (ccl ht h (.slice sa sn sc)), ownt (.slice l2a (without left K).length l2c) (without left K), ownt (.slice da dn dc) (insV al v), ownt (.slice xa xn xc) x, ownt (.slice sa sn sc) (insV y v), box TC X (ccl ht h (.slice a n c))] from ((List.perm_middle (l₁ := [box TC C (ccl ht h (.slice sa sn sc)), ownt (.slice sa sn sc) (insV y v), box TC A (ccl ht h (.slice da dn dc))])).trans (.cons _ ((List.perm_middle (l₁ := [box TC C (ccl ht h (.slice sa sn sc)), ownt (.slice sa sn sc) (insV y v), box TC A (ccl ht h (.slice da dn dc)), ownt (.slice da dn dc) (insV al v), ownt (.slice l2a (without left K).length l2c) (without left K)])).trans (.cons _ ((List.perm_middle (l₁ := [box TC C (ccl ht h (.slice sa sn sc)), ownt (.slice sa sn sc) (insV y v), box TC A (ccl ht h (.slice da dn dc)), ownt (.slice da dn dc) (insV al v), ownt (.slice l2a (without left K).length l2c) (without left K), box TC B (ccl ht h (.slice xa xn xc))])).trans (.cons _ ((List.perm_middle (l₁ := [box TC C (ccl ht h (.slice sa sn sc)), ownt (.slice sa sn sc) (insV y v), box TC A (ccl ht h (.slice da dn dc)), ownt (.slice da dn dc) (insV al v), ownt (.slice l2a (without left K).length l2c) (without left K), box TC B (ccl ht h (.slice xa xn xc))])).trans (.cons _ ((List.perm_middle (l₁ := [box TC C (ccl ht h (.slice sa sn sc)), ownt (.slice sa sn sc) (insV y v), box TC A (ccl ht h (.slice da dn dc)), ownt (.slice da dn dc) (insV al v), ownt (.slice l2a (without left K).length l2c) (without left K), box TC B (ccl ht h (.slice xa xn xc)), ownt (.slice xa xn xc) x])).trans (.cons _ ((List.perm_middle (l₁ := [box TC C (ccl ht h (.slice sa sn sc)), ownt (.slice sa sn sc) (insV y v)])).trans (.cons _ ((List.perm_middle (l₁ := [box TC C (ccl ht h (.slice sa sn sc)), ownt (.slice sa sn sc) (insV y v), ownt (.slice da dn dc) (insV al v), ownt (.slice l2a (without left K).length l2c) (without left K)])).trans (.cons _ ((List.perm_middle (l₁ := [])).trans (.cons _ ((List.perm_middle (l₁ := [ownt (.slice sa sn sc) (insV y v), ownt (.slice da dn dc) (insV al v)])).trans (.cons _ ((List.perm_middle (l₁ := [ownt (.slice sa sn sc) (insV y v)])).trans (.cons _ ((List.perm_middle (l₁ := [ownt (.slice sa sn sc) (insV y v)])).trans (.cons _ ((List.perm_middle (l₁ := [])).trans (.cons _ ((List.perm_middle (l₁ := [])).trans (.cons _ (.refl _))))))))))))))))))))))))))))).drop.drop.drop.drop.drop
            case measure => have h1 := HWL.out; simp [vlen]; omega
        · go_upto_region 20 with fail
          refine wp_region_lit ?_
          refine sV (.int .i64 (k : Int)) (u78) (by kernel_rfl) (by kernel_rfl) ?_
          simp only [Act.put, List.setIfInBounds_toArray, List.set_cons_succ, List.set_cons_zero]
          refine sV (.slice pa pn pc) (u78) (by kernel_rfl) (by kernel_rfl) ?_
          simp only [Act.put, List.setIfInBounds_toArray, List.set_cons_succ, List.set_cons_zero]
          refine sV (.int .i64 (pn : Int)) (u78) (by kernel_rfl) (by kernel_rfl) ?_
          simp only [Act.put, List.setIfInBounds_toArray, List.set_cons_succ, List.set_cons_zero]
          refine sV (.bool (decide ((k : Int) < (pn : Int)))) (u78) (by kernel_rfl) (by kernel_rfl) ?_
          simp only [Act.put, List.setIfInBounds_toArray, List.set_cons_succ, List.set_cons_zero]
          rw [show decide ((k : Int) < (pn : Int)) = false by simp; omega]
          refine sV (.bool false) (u78) (by kernel_rfl) (by kernel_rfl) ?_
          simp only [Act.put, List.setIfInBounds_toArray, List.set_cons_succ, List.set_cons_zero]
          with_reducible refine sS (by kernel_rfl) ?_
          simp only [Act.put, List.setIfInBounds_toArray, List.set_cons_succ, List.set_cons_zero]
          with_reducible refine sS (by kernel_rfl) ?_
          simp only [Act.put, List.setIfInBounds_toArray, List.set_cons_succ, List.set_cons_zero]
          with_reducible refine sS (by kernel_rfl) ?_
          simp only [Act.put, List.setIfInBounds_toArray, List.set_cons_succ, List.set_cons_zero]
          with_reducible refine sS (by kernel_rfl) ?_
          simp only [Act.put, List.setIfInBounds_toArray, List.set_cons_succ, List.set_cons_zero]
          refine sV (.bool false) (u78) (by kernel_rfl) (by kernel_rfl) ?_
          simp only [Act.put, List.setIfInBounds_toArray, List.set_cons_succ, List.set_cons_zero]
          go_upto_region 22 with fail
          refine wp_region_lit ?_
          refine sL (by kernel_rfl) _ _ (by rfl) _ (by kernel_rfl) (H79.out.all (box TC C (ccl ht h (.slice ya yn yc))) (by simp)).1 _ _ UC rfl (by kernel_rfl) (by rw [ccl_len _ _ _ HL.out]) ?_
          simp only [Act.put, List.setIfInBounds_toArray, List.set_cons_succ, List.set_cons_zero]
          refine sL (by kernel_rfl) _ _ (by rfl) _ (by kernel_rfl) (H79.out.all (box TV L56 v.cells) (by simp)).1 _ _ Try.underlying119 rfl (by kernel_rfl) (by rfl) ?_
          simp only [Act.put, List.setIfInBounds_toArray, List.set_cons_succ, List.set_cons_zero]
          refine sCx (by kernel_rfl) (by kernel_rfl) (add_ok u78 ht h ya yn yc y v HL.out ((show OwnT u78 (.slice ya yn yc) y from (H79.out.all (ownt (.slice ya yn yc) y) (by simp)).1).vin) (by have e1 := ((show OwnT u78 (.slice ya yn yc) y from (H79.out.all (ownt (.slice ya yn yc) y) (by simp)).1).vin).len; have e2 := HN1.out; omega) HVO.out HC3.out HST.out.1 (by rw [HST.out.2.2.2.1]; rfl)) ?_
          rintro e u90 ⟨sa, sn, sc, rfl, ho, hnb, hb⟩
          refine ⟨_, rfl, ?_⟩
          simp only [Act.put, List.setIfInBounds_toArray, List.set_cons_succ, List.set_cons_zero]
          have H91 := WirS.hide (bag_ownt H79.out ho hnb hb)
          clear H79
          clear ho hnb hb
          refine sV (.tuple #[.agg (ccl ht h (.slice sa sn sc)).toArray, .int .i64 0]) (u90) (by kernel_rfl) (by kernel_rfl) ?_
          simp only [Act.put, List.setIfInBounds_toArray, List.set_cons_succ, List.set_cons_zero]
          refine sV (.agg (ccl ht h (.slice sa sn sc)).toArray) (u90) (by kernel_rfl) (by kernel_rfl) ?_
          simp only [Act.put, List.setIfInBounds_toArray, List.set_cons_succ, List.set_cons_zero]
          refine sV (.int .i64 0) (u90) (by kernel_rfl) (by kernel_rfl) ?_
          simp only [Act.put, List.setIfInBounds_toArray, List.set_cons_succ, List.set_cons_zero]
          have H92 := WirS.hide (H91.out.perm (show [ownt (.slice sa sn sc) (insV y v), box TC A (ccl ht h (.slice da dn dc)), box TC L70 (ccl ht h (.slice da dn dc)), ownt (.slice da dn dc) (insV al v), ownt (.slice l2a (without left K).length l2c) (without left K), box TV L56 v.cells, box TC B (ccl ht h (.slice xa xn xc)), box TC C (ccl ht h (.slice ya yn yc)), ownt (.slice (some ⟨g, 0, none⟩) left.length lc) left, ownt (.slice aa an ac) al, ownt (.slice xa xn xc) x, ownt (.slice ya yn yc) y, box TC X (ccl ht h (.slice a n c))].Perm [box TC C (ccl ht h (.slice ya yn yc)), ownt (.slice sa sn sc) (insV y v), box TC A (ccl ht h (.slice da dn dc)), box TC L70 (ccl ht h (.slice da dn dc)), ownt (.slice da dn dc) (insV al v), ownt (.slice l2a (without left K).length l2c) (without left K), box TV L56 v.cells, box TC B (ccl ht h (.slice xa xn xc)), ownt (.slice (some ⟨g, 0, none⟩) left.length lc) left, ownt (.slice aa an ac) al, ownt (.slice xa xn xc) x, ownt (.slice ya yn yc) y, box TC X (ccl ht h (.slice a n c))] from ((List.perm_middle (l₁ := [ownt (.slice sa sn sc) (insV y v), box TC A (ccl ht h (.slice da dn dc)), box TC L70 (ccl ht h (.slice da dn dc)), ownt (.slice da dn dc) (insV al v), ownt (.slice l2a (without left K).length l2c) (without left K), box TV L56 v.cells, box TC B (ccl ht h (.slice xa xn xc))])).trans (.cons _ ((List.perm_middle (l₁ := [])).trans (.cons _ ((List.perm_middle (l₁ := [])).trans (.cons _ ((List.perm_middle (l₁ := [])).trans (.cons _ ((List.perm_middle (l₁ := [])).trans (.cons _ ((List.perm_middle (l₁ := [])).trans (.cons _ ((List.perm_middle (l₁ := [])).trans (.cons _ ((List.perm_middle (l₁ := [])).trans (.cons _ ((List.perm_middle (l₁ := [])).trans (.cons _ ((List.perm_middle (l₁ := [])).trans (.cons _ ((List.perm_middle (l₁ := [])).trans (.cons _ ((List.perm_middle (l₁ := [])).trans (.cons _ ((List.perm_middle (l₁ := [])).trans (.cons _ (.refl _)))))))))))))))))))))))))))))
          clear H91
          refine stepStore (by rfl) _ _ _ (by rfl) C (ccl ht h (.slice sa sn sc)) (by kernel_rfl) (by kernel_rfl) H92.out.head 34 (by kernel_rfl) (ccl_len _ _ _ HL.out) (ccl_len _ _ _ HL.out) (one_ccl _ _ _ _ _) ?_
          simp only [Act.put]
          have H94 := WirS.hide (bag_row H92.out (ccl ht h (.slice sa sn sc)))
          clear H92
          generalize World.setRow u90 C _ = u93 at *
          go_wp2_with fail
          go_roundw
          case rel =>
            refine ⟨k + 1, without left K, insV al v, x, (insV y v), l2a, l2c, da, dn, dc, xa, xn, xc, sa, sn, sc, rfl, by go_num, by have h1 := HWL.out; have h2 := HKL.out; omega, HG2.out, ?_⟩
            exact (H94.out.perm (show [box TC C (ccl ht h (.slice sa sn sc)), ownt (.slice sa sn sc) (insV y v), box TC A (ccl ht h (.slice da dn dc)), box TC L70 (ccl ht h (.slice da dn dc)), ownt (.slice da dn dc) (insV al v), ownt (.slice l2a (without left K).length l2c) (without left K), box TV L56 v.cells, box TC B (ccl ht h (.slice xa xn xc)), ownt (.slice (some ⟨g, 0, none⟩) left.length lc) left, ownt (.slice aa an ac) al, ownt (.slice xa xn xc) x, ownt (.slice ya yn yc) y, box TC X (ccl ht h (.slice a n c))].Perm [box TC L70 (ccl ht h (.slice da dn dc)), box TV L56 v.cells, ownt (.slice (some ⟨g, 0, none⟩) left.length lc) left, ownt (.slice aa an ac) al, ownt (.slice ya yn yc) y, box TC A (ccl ht h (.slice da dn dc)), box TC B (ccl ht h (.slice xa xn xc)), box TC C (ccl ht h (.slice sa sn sc)), ownt (.slice l2a (without left K).length l2c) (without left K), ownt (.slice da dn dc) (insV al v), ownt (.slice xa xn xc) x, ownt (.slice sa sn sc) (insV y v), box TC X (ccl ht h (.slice a n c))] from ((List.perm_middle (l₁ := [box TC C (ccl ht h (.slice sa sn sc)), ownt (.slice sa sn sc) (insV y v), box TC A (ccl ht h (.slice da dn dc))])).trans (.cons _ ((List.perm_middle (l₁ := [box TC C (ccl ht h (.slice sa sn sc)), ownt (.slice sa sn sc) (insV y v), box TC A (ccl ht h (.slice da dn dc)), ownt (.slice da dn dc) (insV al v), ownt (.slice l2a (without left K).length l2c) (without left K)])).trans (.cons _ ((List.perm_middle (l₁ := [box TC C (ccl ht h (.slice sa sn sc)), ownt (.slice sa sn sc) (insV y v), box TC A (ccl ht h (.slice da dn dc)), ownt (.slice da dn dc) (insV al v), ownt (.slice l2a (without left K).length l2c) (without left K), box TC B (ccl ht h (.slice xa xn xc))])).trans (.cons _ ((List.perm_middle (l₁ := [box TC C (ccl ht h (.slice sa sn sc)), ownt (.slice sa sn sc) (insV y v), box TC A (ccl ht h (.slice da dn dc)), ownt (.slice da dn dc) (insV al v), ownt (.slice l2a (without left K).length l2c) (without left K), box TC B (ccl ht h (.slice xa xn xc))])).trans (.cons _ ((List.perm_middle (l₁ := [box TC C (ccl ht h (.slice sa sn sc)), ownt (.slice sa sn sc) (insV y v), box TC A (ccl ht h (.slice da dn dc)), ownt (.slice da dn dc) (insV al v), ownt (.slice l2a (without left K).length l2c) (without left K), box TC B (ccl ht h (.slice xa xn xc)), ownt (.slice xa xn xc) x])).trans (.cons _ ((List.perm_middle (l₁ := [box TC C (ccl ht h (.slice sa sn sc)), ownt (.slice sa sn sc) (insV y v)])).trans (.cons _ ((List.perm_middle (l₁ := [box TC C (ccl ht h (.slice sa sn sc)), ownt (.slice sa sn sc) (insV y v), ownt (.slice da dn dc) (insV al v), ownt (.slice l2a (without left K).length l2c) (without left K)])).trans (.cons _ ((List.perm_middle (l₁ := [])).trans (.cons _ ((List.perm_middle (l₁ := [ownt (.slice sa sn sc) (insV y v), ownt (.slice da dn dc) (insV al v)])).trans (.cons _ ((List.perm_middle (l₁ := [ownt (.slice sa sn sc) (insV y v)])).trans (.cons _ ((List.perm_middle (l₁ := [ownt (.slice sa sn sc) (insV y v)])).trans (.cons _ ((List.perm_middle (l₁ := [])).trans (.cons _ ((List.perm_middle (l₁ := [])).trans (.cons _ (.refl _))))))))))))))))))))))))))))).drop.drop.drop.drop.drop
          case measure => have h1 := HWL.out; simp [vlen]; omega
      · have hpos : (0 : Int) < (left.length : Int) := by omega
        have hz2 : ((left.length : Int) == 0) = false := by simp; exact fun h => hz (by rw [h]; rfl)
        have hko : ¬ (k : Int) < (on : Int) := by omega
        have hKl : 0 < left.length := by omega
        go_upto_region 13 with fail
        clear hko hpos hz2
        refine wp_region_lit ?_
        obtain ⟨g, cur, rfl, _⟩ := CmI.OwnT.rw' (show OwnT wr (.slice la left.length lc) left from (HB.out.all (ownt (.slice la left.length lc) left) (by simp)).1) (by omega)
        obtain ⟨v, B0, o0, hx, hmem, e0, _, hr⟩ := ((show OwnT wr (.slice (some ⟨g, 0, none⟩) left.length lc) left from (HB.out.all (ownt (.slice (some ⟨g, 0, none⟩) left.length lc) left) (by simp)).1).vin).cell (i := 0) hKl
        cases e0
        rw [Nat.zero_add] at hr
        obtain ⟨hv1, hv2, hv3, hv4, hv5, hg1, hg2⟩ := HG.out.step HUP.out hx
        have hvok := ((show OwnT wr (.slice (some ⟨g, 0, none⟩) left.length lc) left from (HB.out.all (ownt (.slice (some ⟨g, 0, none⟩) left.length lc) left) (by simp)).1).vin).ok v hmem
        have hwl := without_len hKl
        refine sV (.slice (some ⟨g, 0, none⟩) left.length lc) (wr) (by kernel_rfl) (by kernel_rfl) ?_
        simp only [Act.put, List.setIfInBounds_toArray, List.set_cons_succ, List.set_cons_zero]
        refine sV (.int .i64 0) (wr) (by kernel_rfl) (by kernel_rfl) ?_
        simp only [Act.put, List.setIfInBounds_toArray, List.set_cons_succ, List.set_cons_zero]
        refine sV (.pointer (some ⟨g, 0 * 2, none⟩)) wr (by kernel_rfl) (op2 _ _ _ _ g left.length lc 0 (by rfl) (by kernel_rfl) (by kernel_rfl) hKl wr) ?_
        simp only [Act.put, List.setIfInBounds_toArray, List.set_cons_succ, List.set_cons_zero]
        refine wpList_load_mid' (by kernel_rfl) _ _ (by rfl) g (0 * 2) (by kernel_rfl) v.cells _ hr Try.underlying119 (by rfl) (by kernel_rfl) ?_
        simp only [Act.put, List.setIfInBounds_toArray, List.set_cons_succ, List.set_cons_zero]
        refine sV (.pointer (some ⟨wr.heap.size, 0, none⟩)) (wr.alloc (.cells (⟨0, 0⟩ : Vt).cells.toArray TV)) (by kernel_rfl) (by kernel_rfl) ?_
        simp only [Act.put, List.setIfInBounds_toArray, List.set_cons_succ, List.set_cons_zero]
        obtain ⟨L95, eL95⟩ : ∃ A, wr.heap.size = A := ⟨_, rfl⟩
        have hbL95 := bag_box (T := TV) (cs := (⟨0, 0⟩ : Vt).cells) (X := L95) HB.out eL95.symm (w' := wr.alloc (.cells (⟨0, 0⟩ : Vt).cells.toArray TV)) (by rw [← eL95]; exact At.new _ _ _) (Below.alloc (Below.refl _ _) (Nat.le_refl _) _)
        rw [eL95]
        clear eL95
        generalize World.alloc wr _ = u96 at *
        have H97 := WirS.hide (hbL95)
        clear HB
        clear hbL95
        refine stepStore (by rfl) _ _ _ (by rfl) L95 v.cells (by kernel_rfl) (by kernel_rfl) H97.out.head 2 (by kernel_rfl) (by rfl) (by rfl) (by kernel_rfl) ?_
        simp only [Act.put]
        have H99 := WirS.hide (bag_row H97.out v.cells)
        clear H97
        generalize World.setRow u96 L95 _ = u98 at *
        have HX := WirS.hide hx
        have HST := WirS.hide (And.intro hv1 (And.intro hv2 (And.intro hv3 (And.intro hv4 hv5))))
        have HG1 := WirS.hide hg1
        have HG2 := WirS.hide hg2
        have HVO := WirS.hide hvok
        have HWL := WirS.hide hwl
        have HCAP := WirS.hide ((show OwnT u98 (.slice (some ⟨g, 0, none⟩) left.length lc) left from (H99.out.all (ownt (.slice (some ⟨g, 0, none⟩) left.length lc) left) (by simp)).1).vin).cap
        clear hx hmem hr hv1 hv2 hv3 hv4 hv5 hg1 hg2 hvok hwl
        go_upto_region 14 with fail
        have HZ100 : Hid (Bag w u98.drew [box TV L95 v.cells, box TC A (ccl ht h (.slice aa an ac)), box TC B (ccl ht h (.slice xa xn xc)), box TC C (ccl ht h (.slice ya yn yc)), ownt (.slice (some ⟨g, 0, none⟩) left.length lc) left, ownt (.slice aa an ac) al, ownt (.slice xa xn xc) x, ownt (.slice ya yn yc) y, box TC X (ccl ht h (.slice a n c))]) := WirS.hide (H99.out.more (below_drewN (Below.refl _ _) 1))
        clear H99
        refine wp_region_noPanic ?_
        refine wp_region_held_drew (S := (fun _ : World => True)) (by kernel_rfl) trivial (fun hHeld => ?_)
        generalize World.drew u98 = z101 at *
        refine' wpAnyH_take (i := 1) (oi := _) (v := .slice (some ⟨g, 0, none⟩) left.length lc) rfl (by kernel_rfl) (by kernel_rfl) (by kernel_rfl) (fun _ _ _ h => h) (Or.inl ⟨by kernel_rfl, ?hy1⟩) (by assumption) ?rest1
        case hy1 =>
          intro W _
          kernel_rfl
        case rest1 =>
        try simp only [List.getElem_toArray, List.getElem_cons_succ, List.getElem_cons_zero, Act.put, List.setIfInBounds_toArray, List.set_cons_zero, List.set_cons_succ]
        refine' wpAnyH_take (i := 2) (oi := _) (v := .int .i64 0) rfl (by kernel_rfl) (by kernel_rfl) (by kernel_rfl) (fun _ _ _ h => h) (Or.inl ⟨by kernel_rfl, ?hy2⟩) (by assumption) ?rest2
        case hy2 =>
          intro W _
          kernel_rfl
        case rest2 =>
        try simp only [List.getElem_toArray, List.getElem_cons_succ, List.getElem_cons_zero, Act.put, List.setIfInBounds_toArray, List.set_cons_zero, List.set_cons_succ]
        refine' wpAnyH_take (i := 3) (oi := _) (v := .slice (some ⟨g, 0, none⟩) 0 lc) rfl (by kernel_rfl) (by kernel_rfl) (by kernel_rfl) (fun _ _ _ h => h) (Or.inl ⟨by kernel_rfl, ?hy3⟩) (by assumption) ?rest3
        case hy3 =>
          intro W _
          exact ((fun W => slopH (y := .tmp 72) (l := .int .i64 0) rfl (by kernel_rfl) (by kernel_rfl) (slB g left.length lc 0 (by have := HCAP.out; omega) W))) W
        case rest3 =>
        try simp only [List.getElem_toArray, List.getElem_cons_succ, List.getElem_cons_zero, Act.put, List.setIfInBounds_toArray, List.set_cons_zero, List.set_cons_succ]
        refine' wpAnyH_take (i := 5) (oi := _) (v := .slice (some ⟨g, 0, none⟩) left.length lc) rfl (by kernel_rfl) (by kernel_rfl) (by kernel_rfl) (fun _ _ _ h => h) (Or.inl ⟨by kernel_rfl, ?hy5⟩) (by assumption) ?rest5
        case hy5 =>
          intro W _
          kernel_rfl
        case rest5 =>
        try simp only [List.getElem_toArray, List.getElem_cons_succ, List.getElem_cons_zero, Act.put, List.setIfInBounds_toArray, List.set_cons_zero, List.set_cons_succ]
        refine' wpAnyH_take (i := 6) (oi := _) (v := .int .i64 0) rfl (by kernel_rfl) (by kernel_rfl) (by kernel_rfl) (fun _ _ _ h => h) (Or.inl ⟨by kernel_rfl, ?hy6⟩) (by assumption) ?rest6
        case hy6 =>
          intro W _
          kernel_rfl
        case rest6 =>
        try simp only [List.getElem_toArray, List.getElem_cons_succ, List.getElem_cons_zero, Act.put, List.setIfInBounds_toArray, List.set_cons_zero, List.set_cons_succ]
        refine' wpAnyH_take (i := 7) (oi := _) (v := .int .i64 ((0 + 1 : Nat) : Int)) rfl (by kernel_rfl) (by kernel_rfl) (by kernel_rfl) (fun _ _ _ h => h) (Or.inl ⟨by kernel_rfl, ?hy7⟩) (by assumption) ?rest7
        case hy7 =>
          intro W _
          exact ((fun W => addI (x := .tmp 76) 0 (by omega) rfl (by kernel_rfl) (by kernel_rfl) W)) W
        case rest7 =>
        try simp only [List.getElem_toArray, List.getElem_cons_succ, List.getElem_cons_zero, Act.put, List.setIfInBounds_toArray, List.set_cons_zero, List.set_cons_succ]
        refine' wpAnyH_take (i := 8) (oi := _) (v := .slice (sa2 (some ⟨g, 0, none⟩) lc (0 + 1)) (left.length - (0 + 1)) (lc - (0 + 1))) rfl (by kernel_rfl) (by kernel_rfl) (by kernel_rfl) (fun _ _ _ h => h) (Or.inl ⟨by kernel_rfl, ?hy8⟩) (by assumption) ?rest8
        case hy8 =>
          intro W _
          exact ((fun W => slopL (y := .tmp 77) (l := .int .i64 ((0 + 1 : Nat) : Int)) rfl (by kernel_rfl) (by kernel_rfl) (slC (some ⟨g, 0, none⟩) left.length lc (0 + 1) (by omega) W))) W
        case rest8 =>
        try simp only [List.getElem_toArray, List.getElem_cons_succ, List.getElem_cons_zero, Act.put, List.setIfInBounds_toArray, List.set_cons_zero, List.set_cons_succ]
        refine wpAnyH_ready (rs := [0]) (by kernel_rfl) (by simp) ?_
        refine AllReadyH.cons rfl (fun KK hK => ?_) AllReadyH.nil
        rw [if_pos (by kernel_rfl)]
        refine wp_value (w' := z101.alloc (.cells #[] TV)) (.slice (some ⟨z101.heap.size, 0, none⟩) 0 0) (by kernel_rfl) ?_
        try simp only [List.getElem_toArray, List.getElem_cons_zero, Act.put, List.setIfInBounds_toArray, List.set_cons_zero, List.set_cons_succ]
        have hbe := bag_ownt HZ100.out (ownt_new z101) (fun q hq => by simp [Value.ownBlock] at hq; omega) (Below.alloc (Below.refl _ _) (Nat.le_refl _) _)
        obtain ⟨E103, eE⟩ : ∃ A, z101.heap.size = A := ⟨_, rfl⟩
        rw [eE] at hbe ⊢
        clear eE
        generalize World.alloc z101 _ = z102 at *
        have H104 := WirS.hide (hbe)
        clear HZ100
        clear hbe
        refine hK.out _ _ trivial (fun hHeld => ?_)
        clear hK KK
        obtain ⟨v1, q1, r1, o1, f1, n1⟩ := app_in z102 (.slice (some ⟨E103, 0, none⟩) 0 0) [] (left.take 0) _ _ _ H104.out.head (pre_in ((show OwnT z102 (.slice (some ⟨g, 0, none⟩) left.length lc) left from (H104.out.all (ownt (.slice (some ⟨g, 0, none⟩) left.length lc) left) (by simp)).1).vin) 0 (by omega)) (by have := List.length_take_le 0 left; simp only [List.length_nil]; omega)
        rw [List.nil_append] at o1
        refine wpAnyH_ready (rs := [4]) (by kernel_rfl) (by simp) ?_
        refine AllReadyH.cons rfl (fun KK hK => ?_) AllReadyH.nil
        rw [if_pos (by kernel_rfl)]
        refine step_app TL TL (.tmp 70) (.tmp 73) (by kernel_rfl) _ _ (by kernel_rfl) (by kernel_rfl) v1 q1 r1 ?_
        try simp only [List.getElem_toArray, List.getElem_cons_succ, List.getElem_cons_zero, Act.put, List.setIfInBounds_toArray, List.set_cons_zero, List.set_cons_succ]
        have H105 := WirS.hide (H104.out.act (o' := ownt v1 (left.take 0)) f1 o1 n1)
        clear H104
        clear r1 o1 f1 n1
        refine hK.out _ _ trivial (fun hHeld => ?_)
        clear hK KK
        obtain ⟨v2, q2, r2, o2, f2, n2⟩ := app_in q1 v1 (left.take 0) (left.drop (0 + 1)) _ _ _ H105.out.head (suf_in ((show OwnT q1 (.slice (some ⟨g, 0, none⟩) left.length lc) left from (H105.out.all (ownt (.slice (some ⟨g, 0, none⟩) left.length lc) left) (by simp)).1).vin) (0 + 1) (by omega)) (by rw [List.length_take, List.length_drop]; omega)
        change OwnT q2 v2 (without left 0) at o2
        refine wpAnyH_ready (rs := [9]) (by kernel_rfl) (by simp) ?_
        refine AllReadyH.cons rfl (fun KK hK => ?_) AllReadyH.nil
        rw [if_pos (by kernel_rfl)]
        refine step_app TL TL (.tmp 74) (.tmp 78) (by kernel_rfl) _ _ (by kernel_rfl) (by kernel_rfl) v2 q2 r2 ?_
        try simp only [List.getElem_toArray, List.getElem_cons_succ, List.getElem_cons_zero, Act.put, List.setIfInBounds_toArray, List.set_cons_zero, List.set_cons_succ]
        have H106 := WirS.hide (H105.out.act (o' := ownt v2 (without left 0)) f2 o2 n2)
        clear H105
        clear r2 o2 f2 n2
        refine hK.out _ _ trivial (fun hHeld => ?_)
        clear hK KK
        refine' wpAnyH_take (i := 10) (oi := _) (v := v2) rfl (by kernel_rfl) (by kernel_rfl) (by kernel_rfl) (fun _ _ _ h => h) (Or.inl ⟨by kernel_rfl, ?hy10⟩) (by assumption) ?rest10
        case hy10 =>
          intro W _
          kernel_rfl
        case rest10 =>
        try simp only [List.getElem_toArray, List.getElem_cons_succ, List.getElem_cons_zero, Act.put, List.setIfInBounds_toArray, List.set_cons_zero, List.set_cons_succ]
        refine wpAnyH_done (by kernel_rfl) ?_ _
        refine NoPanic.normal ?_
        clear hHeld
        obtain ⟨l2a, l2c, rfl⟩ : ∃ xa xc, v2 = .slice xa (without left 0).length xc := (show OwnT q2 v2 (without left 0) from (H106.out.all (ownt v2 (without left 0)) (by simp)).1).len_of
        go_upto_region 15 with fail
        refine wp_region_lit ?_
        refine sL (by kernel_rfl) _ _ (by rfl) _ (by kernel_rfl) (H106.out.all (box TC A (ccl ht h (.slice aa an ac))) (by simp)).1 _ _ UC rfl (by kernel_rfl) (by rw [ccl_len _ _ _ HL.out]) ?_
        simp only [Act.put, List.setIfInBounds_toArray, List.set_cons_succ, List.set_cons_zero]
        refine sL (by kernel_rfl) _ _ (by rfl) _ (by kernel_rfl) (H106.out.all (box TV L95 v.cells) (by simp)).1 _ _ Try.underlying119 rfl (by kernel_rfl) (by rfl) ?_
        simp only [Act.put, List.setIfInBounds_toArray, List.set_cons_succ, List.set_cons_zero]
        refine sCx (by kernel_rfl) (by kernel_rfl) (add_ok q2 ht h aa an ac al v HL.out ((show OwnT q2 (.slice aa an ac) al from (H106.out.all (ownt (.slice aa an ac) al) (by simp)).1).vin) (by have e1 := ((show OwnT q2 (.slice aa an ac) al from (H106.out.all (ownt (.slice aa an ac) al) (by simp)).1).vin).len; have e2 := HN1.out; omega) HVO.out HC1.out HST.out.1 (by rw [HST.out.2.1]; rfl)) ?_
        rintro e u107 ⟨da, dn, dc, rfl, ho, hnb, hb⟩
        refine ⟨_, rfl, ?_⟩
        simp only [Act.put, List.setIfInBounds_toArray, List.set_cons_succ, List.set_cons_zero]
        have H108 := WirS.hide (bag_ownt H106.out ho hnb hb)
        clear H106
        clear ho hnb hb
        refine sV (.tuple #[.agg (ccl ht h (.slice da dn dc)).toArray, .int .i64 0]) (u107) (by kernel_rfl) (by kernel_rfl) ?_
        simp only [Act.put, List.setIfInBounds_toArray, List.set_cons_succ, List.set_cons_zero]
        refine sV (.agg (ccl ht h (.slice da dn dc)).toArray) (u107) (by kernel_rfl) (by kernel_rfl) ?_
        simp only [Act.put, List.setIfInBounds_toArray, List.set_cons_succ, List.set_cons_zero]
        refine sV (.int .i64 0) (u107) (by kernel_rfl) (by kernel_rfl) ?_
        simp only [Act.put, List.setIfInBounds_toArray, List.set_cons_succ, List.set_cons_zero]
        refine sV (.pointer (some ⟨u107.heap.size, 0, none⟩)) (u107.alloc (.cells zcm.toArray TC)) (by kernel_rfl) (by kernel_rfl) ?_
        simp only [Act.put, List.setIfInBounds_toArray, List.set_cons_succ, List.set_cons_zero]
        obtain ⟨L109, eL109⟩ : ∃ A, u107.heap.size = A := ⟨_, rfl⟩
        have hbL109 := bag_box (T := TC) (cs := zcm) (X := L109) H108.out eL109.symm (w' := u107.alloc (.cells zcm.toArray TC)) (by rw [← eL109]; exact At.new _ _ _) (Below.alloc (Below.refl _ _) (Nat.le_refl _) _)
        rw [eL109]
        clear eL109
        generalize World.alloc u107 _ = u110 at *
        have H111 := WirS.hide (hbL109)
        clear H108
        clear hbL109
        refine stepStore (by rfl) _ _ _ (by rfl) L109 (ccl ht h (.slice da dn dc)) (by kernel_rfl) (by kernel_rfl) H111.out.head 34 (by kernel_rfl) (by rfl) (ccl_len _ _ _ HL.out) (one_ccl _ _ _ _ _) ?_
        simp only [Act.put]
        have H113 := WirS.hide (bag_row H111.out (ccl ht h (.slice da dn dc)))
        clear H111
        generalize World.setRow u110 L109 _ = u112 at *
        go_upto_region 16 with fail
        refine wp_region_lit ?_
        refine sL (by kernel_rfl) _ _ (by rfl) _ (by kernel_rfl) (H113.out.all (box TC L109 (ccl ht h (.slice da dn dc))) (by simp)).1 _ _ UC rfl (by kernel_rfl) (by rw [ccl_len _ _ _ HL.out]) ?_
        simp only [Act.put, List.setIfInBounds_toArray, List.set_cons_succ, List.set_cons_zero]
        refine sV (.pointer (some ⟨L95, 0, none⟩)) (u112) (by kernel_rfl) (by kernel_rfl) ?_
        simp only [Act.put, List.setIfInBounds_toArray, List.set_cons_succ, List.set_cons_zero]
        refine sP (by kernel_rfl) _ _ (by rfl) ⟨L95, 0, none⟩ (by kernel_rfl) (.int .i64 v.at') ((show At u112 L95 TV v.cells from (H113.out.all (box TV L95 v.cells) (by simp)).1).cell 0) (by kernel_rfl) ?_
        simp only [Act.put, List.setIfInBounds_toArray, List.set_cons_succ, List.set_cons_zero]
        refine sC (R := fun w' => Below u112.heap.size u112 w') (v := .tuple #[.int .u64 v.sg, .bool true]) (by kernel_rfl) (by kernel_rfl) (by have C := of_any u112 ht h da dn dc (insV al v) v.at' HL.out ((show OwnT u112 (.slice da dn dc) (insV al v) from (H113.out.all (ownt (.slice da dn dc) (insV al v)) (by simp)).1).vin); rw [show ofS v.at' (insV al v) = v.sg from by unfold ofS; rw [HST.out.2.2.2.2]; rfl, show (ofV v.at' (insV al v)).isSome = true from by rw [HST.out.2.2.2.2]; rfl] at C; exact C) ?_
        rintro u114 hb
        simp only [Act.put, List.setIfInBounds_toArray, List.set_cons_succ, List.set_cons_zero]
        have H115 := WirS.hide (H113.out.more hb)
        clear H113
        clear hb
        refine sV (.tuple #[.int .u64 v.sg, .bool true]) (u114) (by kernel_rfl) (by kernel_rfl) ?_
        simp only [Act.put, List.setIfInBounds_toArray, List.set_cons_succ, List.set_cons_zero]
        refine sV (.int .u64 v.sg) (u114) (by kernel_rfl) (by kernel_rfl) ?_
        simp only [Act.put, List.setIfInBounds_toArray, List.set_cons_succ, List.set_cons_zero]
        refine sV (.bool true) (u114) (by kernel_rfl) (by kernel_rfl) ?_
        simp only [Act.put, List.setIfInBounds_toArray, List.set_cons_succ, List.set_cons_zero]
        go_upto_region 17 with fail
        refine wp_region_lit ?_
        refine sV (.int .i64 0) (u114) (by kernel_rfl) (by kernel_rfl) ?_
        simp only [Act.put, List.setIfInBounds_toArray, List.set_cons_succ, List.set_cons_zero]
        refine sV (.bool false) (u114) (by kernel_rfl) (by kernel_rfl) ?_
        simp only [Act.put, List.setIfInBounds_toArray, List.set_cons_succ, List.set_cons_zero]
        refine sV (.bool false) (u114) (by kernel_rfl) (by kernel_rfl) ?_
        simp only [Act.put, List.setIfInBounds_toArray, List.set_cons_succ, List.set_cons_zero]
        refine sV (.bool true) (u114) (by kernel_rfl) (by kernel_rfl) ?_
        simp only [Act.put, List.setIfInBounds_toArray, List.set_cons_succ, List.set_cons_zero]
        refine sV (.bool false) (u114) (by kernel_rfl) (by kernel_rfl) ?_
        simp only [Act.put, List.setIfInBounds_toArray, List.set_cons_succ, List.set_cons_zero]
        refine sV (.bool false) (u114) (by kernel_rfl) (by kernel_rfl) ?_
        simp only [Act.put, List.setIfInBounds_toArray, List.set_cons_succ, List.set_cons_zero]
        refine sV (.bool false) (u114) (by kernel_rfl) (by kernel_rfl) ?_
        simp only [Act.put, List.setIfInBounds_toArray, List.set_cons_succ, List.set_cons_zero]
        refine sV (.int .u64 v.sg) (u114) (by kernel_rfl) (by kernel_rfl) ?_
        simp only [Act.put, List.setIfInBounds_toArray, List.set_cons_succ, List.set_cons_zero]
        refine sV (.pointer (some ⟨L95, 1, none⟩)) (u114) (by kernel_rfl) (by kernel_rfl) ?_
        simp only [Act.put, List.setIfInBounds_toArray, List.set_cons_succ, List.set_cons_zero]
        refine sP (by kernel_rfl) _ _ (by rfl) ⟨L95, 1, none⟩ (by kernel_rfl) (.int .u64 v.sg) ((show At u114 L95 TV v.cells from (H115.out.all (box TV L95 v.cells) (by simp)).1).cell 1) (by kernel_rfl) ?_
        simp only [Act.put, List.setIfInBounds_toArray, List.set_cons_succ, List.set_cons_zero]
        refine sB (by kernel_rfl) .neq 37 _ _ _ (by rfl) (.int .u64 v.sg) (.int .u64 v.sg) (by kernel_rfl) (by kernel_rfl) (.bool false) (neU v.sg u114) (by kernel_rfl) ?_
        simp only [Act.put, List.setIfInBounds_toArray, List.set_cons_succ, List.set_cons_zero]
        refine sV (.bool false) (u114) (by kernel_rfl) (by kernel_rfl) ?_
        simp only [Act.put, List.setIfInBounds_toArray, List.set_cons_succ, List.set_cons_zero]
        go_upto_region 19 with fail
        refine wp_region_lit ?_
        refine sL (by kernel_rfl) _ _ (by rfl) _ (by kernel_rfl) (H115.out.all (box TC L109 (ccl ht h (.slice da dn dc))) (by simp)).1 _ _ UC rfl (by kernel_rfl) (by rw [ccl_len _ _ _ HL.out]) ?_
        simp only [Act.put, List.setIfInBounds_toArray, List.set_cons_succ, List.set_cons_zero]
        have H116 := WirS.hide (H115.out.perm (show [box TC L109 (ccl ht h (.slice da dn dc)), ownt (.slice da dn dc) (insV al v), ownt (.slice l2a (without left 0).length l2c) (without left 0), box TV L95 v.cells, box TC A (ccl ht h (.slice aa an ac)), box TC B (ccl ht h (.slice xa xn xc)), box TC C (ccl ht h (.slice ya yn yc)), ownt (.slice (some ⟨g, 0, none⟩) left.length lc) left, ownt (.slice aa an ac) al, ownt (.slice xa xn xc) x, ownt (.slice ya yn yc) y, box TC X (ccl ht h (.slice a n c))].Perm [box TC A (ccl ht h (.slice aa an ac)), box TC L109 (ccl ht h (.slice da dn dc)), ownt (.slice da dn dc) (insV al v), ownt (.slice l2a (without left 0).length l2c) (without left 0), box TV L95 v.cells, box TC B (ccl ht h (.slice xa xn xc)), box TC C (ccl ht h (.slice ya yn yc)), ownt (.slice (some ⟨g, 0, none⟩) left.length lc) left, ownt (.slice aa an ac) al, ownt (.slice xa xn xc) x, ownt (.slice ya yn yc) y, box TC X (ccl ht h (.slice a n c))] from ((List.perm_middle (l₁ := [box TC L109 (ccl ht h (.slice da dn dc)), ownt (.slice da dn dc) (insV al v), ownt (.slice l2a (without left 0).length l2c) (without left 0), box TV L95 v.cells])).trans (.cons _ ((List.perm_middle (l₁ := [])).trans (.cons _ ((List.perm_middle (l₁ := [])).trans (.cons _ ((List.perm_middle (l₁ := [])).trans (.cons _ ((List.perm_middle (l₁ := [])).trans (.cons _ ((List.perm_middle (l₁ := [])).trans (.cons _ ((List.perm_middle (l₁ := [])).trans (.cons _ ((List.perm_middle (l₁ := [])).trans (.cons _ ((List.perm_middle (l₁ := [])).trans (.cons _ ((List.perm_middle (l₁ := [])).trans (.cons _ ((List.perm_middle (l₁ := [])).trans (.cons _ ((List.perm_middle (l₁ := [])).trans (.cons _ (.refl _)))))))))))))))))))))))))))
        clear H115
        refine stepStore (by rfl) _ _ _ (by rfl) A (ccl ht h (.slice da dn dc)) (by kernel_rfl) (by kernel_rfl) H116.out.head 34 (by kernel_rfl) (ccl_len _ _ _ HL.out) (ccl_len _ _ _ HL.out) (one_ccl _ _ _ _ _) ?_
        simp only [Act.put]
        have H118 := WirS.hide (bag_row H116.out (ccl ht h (.slice da dn dc)))
        clear H116
        generalize World.setRow u114 A _ = u117 at *
        by_cases hk2 : k < pn
        · by_cases hk3 : fp k = true
          · go_upto_region 20 with fail
            refine wp_region_lit ?_
            obtain ⟨PB, po, rfl, hcp⟩ := HP.out.at' H118.out.low hk2
            rw [hk3] at hcp
            refine sV (.int .i64 (k : Int)) (u117) (by kernel_rfl) (by kernel_rfl) ?_
            simp only [Act.put, List.setIfInBounds_toArray, List.set_cons_succ, List.set_cons_zero]
            refine sV (.slice (some ⟨PB, po, none⟩) pn pc) (u117) (by kernel_rfl) (by kernel_rfl) ?_
            simp only [Act.put, List.setIfInBounds_toArray, List.set_cons_succ, List.set_cons_zero]
            refine sV (.int .i64 (pn : Int)) (u117) (by kernel_rfl) (by kernel_rfl) ?_
            simp only [Act.put, List.setIfInBounds_toArray, List.set_cons_succ, List.set_cons_zero]
            refine sV (.bool (decide ((k : Int) < (pn : Int)))) (u117) (by kernel_rfl) (by kernel_rfl) ?_
            simp only [Act.put, List.setIfInBounds_toArray, List.set_cons_succ, List.set_cons_zero]
            rw [show decide ((k : Int) < (pn : Int)) = true by simp; omega]
            refine sV (.bool true) (u117) (by kernel_rfl) (by kernel_rfl) ?_
            simp only [Act.put, List.setIfInBounds_toArray, List.set_cons_succ, List.set_cons_zero]
            refine sV (.slice (some ⟨PB, po, none⟩) pn pc) (u117) (by kernel_rfl) (by kernel_rfl) ?_
            simp only [Act.put, List.setIfInBounds_toArray, List.set_cons_succ, List.set_cons_zero]
            refine sV (.int .i64 (k : Int)) (u117) (by kernel_rfl) (by kernel_rfl) ?_
            simp only [Act.put, List.setIfInBounds_toArray, List.set_cons_succ, List.set_cons_zero]
            refine sV (.pointer (some ⟨PB, po + k, none⟩)) u117 (by kernel_rfl) (opb _ _ _ _ PB po pn pc k (by rfl) (by kernel_rfl) (by kernel_rfl) hk2 u117) ?_
            simp only [Act.put, List.setIfInBounds_toArray, List.set_cons_succ, List.set_cons_zero]
            refine sP (by kernel_rfl) _ _ (by rfl) ⟨PB, po + k, none⟩ (by kernel_rfl) (.bool true) hcp (by kernel_rfl) ?_
            simp only [Act.put, List.setIfInBounds_toArray, List.set_cons_succ, List.set_cons_zero]
            refine sV (.bool true) (u117) (by kernel_rfl) (by kernel_rfl) ?_
            simp only [Act.put, List.setIfInBounds_toArray, List.set_cons_succ, List.set_cons_zero]
            go_upto_region 21 with fail
            refine wp_region_lit ?_
            refine sL (by kernel_rfl) _ _ (by rfl) _ (by kernel_rfl) (H118.out.all (box TC B (ccl ht h (.slice xa xn xc))) (by simp)).1 _ _ UC rfl (by kernel_rfl) (by rw [ccl_len _ _ _ HL.out]) ?_
            simp only [Act.put, List.setIfInBounds_toArray, List.set_cons_succ, List.set_cons_zero]
            refine sL (by kernel_rfl) _ _ (by rfl) _ (by kernel_rfl) (H118.out.all (box TV L95 v.cells) (by simp)).1 _ _ Try.underlying119 rfl (by kernel_rfl) (by rfl) ?_
            simp only [Act.put, List.setIfInBounds_toArray, List.set_cons_succ, List.set_cons_zero]
            refine sCx (by kernel_rfl) (by kernel_rfl) (add_ok u117 ht h xa xn xc x v HL.out ((show OwnT u117 (.slice xa xn xc) x from (H118.out.all (ownt (.slice xa xn xc) x) (by simp)).1).vin) (by have e1 := ((show OwnT u117 (.slice xa xn xc) x from (H118.out.all (ownt (.slice xa xn xc) x) (by simp)).1).vin).len; have e2 := HN1.out; omega) HVO.out HC2.out HST.out.1 (by rw [HST.out.2.2.1]; rfl)) ?_
            rintro e u119 ⟨sa, sn, sc, rfl, ho, hnb, hb⟩
            refine ⟨_, rfl, ?_⟩
            simp only [Act.put, List.setIfInBounds_toArray, List.set_cons_succ, List.set_cons_zero]
            have H120 := WirS.hide (bag_ownt H118.out ho hnb hb)
            clear H118
            clear ho hnb hb
            refine sV (.tuple #[.agg (ccl ht h (.slice sa sn sc)).toArray, .int .i64 0]) (u119) (by kernel_rfl) (by kernel_rfl) ?_
            simp only [Act.put, List.setIfInBounds_toArray, List.set_cons_succ, List.set_cons_zero]
            refine sV (.agg (ccl ht h (.slice sa sn sc)).toArray) (u119) (by kernel_rfl) (by kernel_rfl) ?_
            simp only [Act.put, List.setIfInBounds_toArray, List.set_cons_succ, List.set_cons_zero]
            refine sV (.int .i64 0) (u119) (by kernel_rfl) (by kernel_rfl) ?_
            simp only [Act.put, List.setIfInBounds_toArray, List.set_cons_succ, List.set_cons_zero]
            have H121 := WirS.hide (H120.out.perm (show [ownt (.slice sa sn sc) (insV x v), box TC A (ccl ht h (.slice da dn dc)), box TC L109 (ccl ht h (.slice da dn dc)), ownt (.slice da dn dc) (insV al v), ownt (.slice l2a (without left 0).length l2c) (without left 0), box TV L95 v.cells, box TC B (ccl ht h (.slice xa xn xc)), box TC C (ccl ht h (.slice ya yn yc)), ownt (.slice (some ⟨g, 0, none⟩) left.length lc) left, ownt (.slice aa an ac) al, ownt (.slice xa xn xc) x, ownt (.slice ya yn yc) y, box TC X (ccl ht h (.slice a n c))].Perm [box TC B (ccl ht h (.slice xa xn xc)), ownt (.slice sa sn sc) (insV x v), box TC A (ccl ht h (.slice da dn dc)), box TC L109 (ccl ht h (.slice da dn dc)), ownt (.slice da dn dc) (insV al v), ownt (.slice l2a (without left 0).length l2c) (without left 0), box TV L95 v.cells, box TC C (ccl ht h (.slice ya yn yc)), ownt (.slice (some ⟨g, 0, none⟩) left.length lc) left, ownt (.slice aa an ac) al, ownt (.slice xa xn xc) x, ownt (.slice ya yn yc) y, box TC X (ccl ht h (.slice a n c))] from ((List.perm_middle (l₁ := [ownt (.slice sa sn sc) (insV x v), box TC A (ccl ht h (.slice da dn dc)), box TC L109 (ccl ht h (.slice da dn dc)), ownt (.slice da dn dc) (insV al v), ownt (.slice l2a (without left 0).length l2c) (without left 0), box TV L95 v.cells])).trans (.cons _ ((List.perm_middle (l₁ := [])).trans (.cons _ ((List.perm_middle (l₁ := [])).trans (.cons _ ((List.perm_middle (l₁ := [])).trans (.cons _ ((List.perm_middle (l₁ := [])).trans (.cons _ ((List.perm_middle (l₁ := [])).trans (.cons _ ((List.perm_middle (l₁ := [])).trans (.cons _ ((List.perm_middle (l₁ := [])).trans (.cons _ ((List.perm_middle (l₁ := [])).trans (.cons _ ((List.perm_middle (l₁ := [])).trans (.cons _ ((List.perm_middle (l₁ := [])).trans (.cons _ ((List.perm_middle (l₁ := [])).trans (.cons _ ((List.perm_middle (l₁ := [])).trans (.cons _ (.refl _)))))))))))))))))))))))))))))
            clear H120
            refine stepStore (by rfl) _ _ _ (by rfl) B (ccl ht h (.slice sa sn sc)) (by kernel_rfl) (by kernel_rfl) H121.out.head 34 (by kernel_rfl) (ccl_len _ _ _ HL.out) (ccl_len _ _ _ HL.out) (one_ccl _ _ _ _ _) ?_
            simp only [Act.put]
            have H123 := WirS.hide (bag_row H121.out (ccl ht h (.slice sa sn sc)))
            clear H121
            generalize World.setRow u119 B _ = u122 at *
            go_wp2_with fail
            go_roundw
            case rel =>
              refine ⟨k + 1, without left 0, insV al v, (insV x v), y, l2a, l2c, da, dn, dc, sa, sn, sc, ya, yn, yc, rfl, by go_num, by have h1 := HWL.out; have h2 := HKL.out; omega, HG1.out, ?_⟩
              exact (H123.out.perm (show [box TC B (ccl ht h (.slice sa sn sc)), ownt (.slice sa sn sc) (insV x v), box TC A (ccl ht h (.slice da dn dc)), box TC L109 (ccl ht h (.slice da dn dc)), ownt (.slice da dn dc) (insV al v), ownt (.slice l2a (without left 0).length l2c) (without left 0), box TV L95 v.cells, box TC C (ccl ht h (.slice ya yn yc)), ownt (.slice (some ⟨g, 0, none⟩) left.length lc) left, ownt (.slice aa an ac) al, ownt (.slice xa xn xc) x, ownt (.slice ya yn yc) y, box TC X (ccl ht h (.slice a n c))].Perm [box TC L109 (ccl ht h (.slice da dn dc)), box TV L95 v.cells, ownt (.slice (some ⟨g, 0, none⟩) left.length lc) left, ownt (.slice aa an ac) al, ownt (.slice xa xn xc) x, box TC A (ccl ht h (.slice da dn dc)), box TC B (ccl ht h (.slice sa sn sc)), box TC C (ccl ht h (.slice ya yn yc)), ownt (.slice l2a (without left 0).length l2c) (without left 0), ownt (.slice da dn dc) (insV al v), ownt (.slice sa sn sc) (insV x v), ownt (.slice ya yn yc) y, box TC X (ccl ht h (.slice a n c))] from ((List.perm_middle (l₁ := [box TC B (ccl ht h (.slice sa sn sc)), ownt (.slice sa sn sc) (insV x v), box TC A (ccl ht h (.slice da dn dc))])).trans (.cons _ ((List.perm_middle (l₁ := [box TC B (ccl ht h (.slice sa sn sc)), ownt (.slice sa sn sc) (insV x v), box TC A (ccl ht h (.slice da dn dc)), ownt (.slice da dn dc) (insV al v), ownt (.slice l2a (without left 0).length l2c) (without left 0)])).trans (.cons _ ((List.perm_middle (l₁ := [box TC B (ccl ht h (.slice sa sn sc)), ownt (.slice sa sn sc) (insV x v), box TC A (ccl ht h (.slice da dn dc)), ownt (.slice da dn dc) (insV al v), ownt (.slice l2a (without left 0).length l2c) (without left 0), box TC C (ccl ht h (.slice ya yn yc))])).trans (.cons _ ((List.perm_middle (l₁ := [box TC B (ccl ht h (.slice sa sn sc)), ownt (.slice sa sn sc) (insV x v), box TC A (ccl ht h (.slice da dn dc)), ownt (.slice da dn dc) (insV al v), ownt (.slice l2a (without left 0).length l2c) (without left 0), box TC C (ccl ht h (.slice ya yn yc))])).trans (.cons _ ((List.perm_middle (l₁ := [box TC B (ccl ht h (.slice sa sn sc)), ownt (.slice sa sn sc) (insV x v), box TC A (ccl ht h (.slice da dn dc)), ownt (.slice da dn dc) (insV al v), ownt (.slice l2a (without left 0).length l2c) (without left 0), box TC C (ccl ht h (.slice ya yn yc))])).trans (.cons _ ((List.perm_middle (l₁ := [box TC B (ccl ht h (.slice sa sn sc)), ownt (.slice sa sn sc) (insV x v)])).trans (.cons _ ((List.perm_middle (l₁ := [])).trans (.cons _ ((List.perm_middle (l₁ := [ownt (.slice sa sn sc) (insV x v), ownt (.slice da dn dc) (insV al v), ownt (.slice l2a (without left 0).length l2c) (without left 0)])).trans (.cons _ ((List.perm_middle (l₁ := [ownt (.slice sa sn sc) (insV x v), ownt (.slice da dn dc) (insV al v)])).trans (.cons _ ((List.perm_middle (l₁ := [ownt (.slice sa sn sc) (insV x v)])).trans (.cons _ ((List.perm_middle (l₁ := [])).trans (.cons _ ((List.perm_middle (l₁ := [])).trans (.cons _ ((List.perm_middle (l₁ := [])).trans (.cons _ (.refl _))))))))))))))))))))))))))))).drop.drop.drop.drop.drop
            case measure => have h1 := HWL.out; simp [vlen]; omega
          · have hk3 : fp k = false := by simpa using hk3
            go_upto_region 20 with fail
            refine wp_region_lit ?_
            obtain ⟨PB, po, rfl, hcp⟩ := HP.out.at' H118.out.low hk2
            rw [hk3] at hcp
            refine sV (.int .i64 (k : Int)) (u117) (by kernel_rfl) (by kernel_rfl) ?_
            simp only [Act.put, List.setIfInBounds_toArray, List.set_cons_succ, List.set_cons_zero]
            refine sV (.slice (some ⟨PB, po, none⟩) pn pc) (u117) (by kernel_rfl) (by kernel_rfl) ?_
            simp only [Act.put, List.setIfInBounds_toArray, List.set_cons_succ, List.set_cons_zero]
            refine sV (.int .i64 (pn : Int)) (u117) (by kernel_rfl) (by kernel_rfl) ?_
            simp only [Act.put, List.setIfInBounds_toArray, List.set_cons_succ, List.set_cons_zero]
            refine sV (.bool (decide ((k : Int) < (pn : Int)))) (u117) (by kernel_rfl) (by kernel_rfl) ?_
            simp only [Act.put, List.setIfInBounds_toArray, List.set_cons_succ, List.set_cons_zero]
            rw [show decide ((k : Int) < (pn : Int)) = true by simp; omega]
            refine sV (.bool true) (u117) (by kernel_rfl) (by kernel_rfl) ?_
            simp only [Act.put, List.setIfInBounds_toArray, List.set_cons_succ, List.set_cons_zero]
            refine sV (.slice (some ⟨PB, po, none⟩) pn pc) (u117) (by kernel_rfl) (by kernel_rfl) ?_
            simp only [Act.put, List.setIfInBounds_toArray, List.set_cons_succ, List.set_cons_zero]
            refine sV (.int .i64 (k : Int)) (u117) (by kernel_rfl) (by kernel_rfl) ?_
            simp only [Act.put, List.setIfInBounds_toArray, List.set_cons_succ, List.set_cons_zero]
            refine sV (.pointer (some ⟨PB, po + k, none⟩)) u117 (by kernel_rfl) (opb _ _ _ _ PB po pn pc k (by rfl) (by kernel_rfl) (by kernel_rfl) hk2 u117) ?_
            simp only [Act.put, List.setIfInBounds_toArray, List.set_cons_succ, List.set_cons_zero]
            refine sP (by kernel_rfl) _ _ (by rfl) ⟨PB, po + k, none⟩ (by kernel_rfl) (.bool false) hcp (by kernel_rfl) ?_
            simp only [Act.put, List.setIfInBounds_toArray, List.set_cons_succ, List.set_cons_zero]
            refine sV (.bool false) (u117) (by kernel_rfl) (by kernel_rfl) ?_
            simp only [Act.put, List.setIfInBounds_toArray, List.set_cons_succ, List.set_cons_zero]
            go_upto_region 22 with fail
            refine wp_region_lit ?_
            refine sL (by kernel_rfl) _ _ (by rfl) _ (by kernel_rfl) (H118.out.all (box TC C (ccl ht h (.slice ya yn yc))) (by simp)).1 _ _ UC rfl (by kernel_rfl) (by rw [ccl_len _ _ _ HL.out]) ?_
            simp only [Act.put, List.setIfInBounds_toArray, List.set_cons_succ, List.set_cons_zero]
            refine sL (by kernel_rfl) _ _ (by rfl) _ (by kernel_rfl) (H118.out.all (box TV L95 v.cells) (by simp)).1 _ _ Try.underlying119 rfl (by kernel_rfl) (by rfl) ?_
            simp only [Act.put, List.setIfInBounds_toArray, List.set_cons_succ, List.set_cons_zero]
            refine sCx (by kernel_rfl) (by kernel_rfl) (add_ok u117 ht h ya yn yc y v HL.out ((show OwnT u117 (.slice ya yn yc) y from (H118.out.all (ownt (.slice ya yn yc) y) (by simp)).1).vin) (by have e1 := ((show OwnT u117 (.slice ya yn yc) y from (H118.out.all (ownt (.slice ya yn yc) y) (by simp)).1).vin).len; have e2 := HN1.out; omega) HVO.out HC3.out HST.out.1 (by rw [HST.out.2.2.2.1]; rfl)) ?_
            rintro e u124 ⟨sa, sn, sc, rfl, ho, hnb, hb⟩
            refine ⟨_, rfl, ?_⟩
            simp only [Act.put, List.setIfInBounds_toArray, List.set_cons_succ, List.set_cons_zero]
            have H125 := WirS.hide (bag_ownt H118.out ho hnb hb)
            clear H118
            clear ho hnb hb
            refine sV (.tuple #[.agg (ccl ht h (.slice sa sn sc)).toArray, .int .i64 0]) (u124) (by kernel_rfl) (by kernel_rfl) ?_
            simp only [Act.put, List.setIfInBounds_toArray, List.set_cons_succ, List.set_cons_zero]
            refine sV (.agg (ccl ht h (.slice sa sn sc)).toArray) (u124) (by kernel_rfl) (by kernel_rfl) ?_
            simp only [Act.put, List.setIfInBounds_toArray, List.set_cons_succ, List.set_cons_zero]
            refine sV (.int .i64 0) (u124) (by kernel_rfl) (by kernel_rfl) ?_
            simp only [Act.put, List.setIfInBounds_toArray, List.set_cons_succ, List.set_cons_zero]
            have H126 := WirS.hide (H125.out.perm (show [ownt (.slice sa sn sc) (insV y v), box TC A (ccl ht h (.slice da dn dc)), box TC L109 (ccl ht h (.slice da dn dc)), ownt (.slice da dn dc) (insV al v), ownt (.slice l2a (without left 0).length l2c) (without left 0), box TV L95 v.cells, box TC B (ccl ht h (.slice xa xn xc)), box TC C (ccl ht h (.slice ya yn yc)), ownt (.slice (some ⟨g, 0, none⟩) left.length lc) left, ownt (.slice aa an ac) al, ownt (.slice xa xn xc) x, ownt (.slice ya yn yc) y, box TC X (ccl ht h (.slice a n c))].Perm [box TC C (ccl ht h (.slice ya yn yc)), ownt (.slice sa sn sc) (insV y v), box TC A (ccl ht h (.slice da dn dc)), box TC L109 (ccl ht h (.slice da dn dc)), ownt (.slice da dn dc) (insV al v), ownt (.slice l2a (without left 0).length l2c) (without left 0), box TV L95 v.cells, box TC B (ccl ht h (.slice xa xn xc)), ownt (.slice (some ⟨g, 0, none⟩) left.length lc) left, ownt (.slice aa an ac) al, ownt (.slice xa xn xc) x, ownt (.slice ya yn yc) y, box TC X (ccl ht h (.slice a n c))] from ((List.perm_middle (l₁ := [ownt (.slice sa sn sc) (insV y v), box TC A (ccl ht h (.slice da dn dc)), box TC L109 (ccl ht h (.slice da dn dc)), ownt (.slice da dn dc) (insV al v), ownt (.slice l2a (without left 0).length l2c) (without left 0), box TV L95 v.cells, box TC B (ccl ht h (.slice xa xn xc))])).trans (.cons _ ((List.perm_middle (l₁ := [])).trans (.cons _ ((List.perm_middle (l₁ := [])).trans (.cons _ ((List.perm_middle (l₁ := [])).trans (.cons _ ((List.perm_middle (l₁ := [])).trans (.cons _ ((List.perm_middle (l₁ := [])).trans (.cons _ ((List.perm_middle (l₁ := [])).trans (.cons _ ((List.perm_middle (l₁ := [])).trans (.cons _ ((List.perm_middle (l₁ := [])).trans (.cons _ ((List.perm_middle (l₁ := [])).trans (.cons _ ((List.perm_middle (l₁ := [])).trans (.cons _ ((List.perm_middle (l₁ := [])).trans (.cons _ ((List.perm_middle (l₁ := [])).trans (.cons _ (.refl _)))))))))))))))))))))))))))))
            clear H125
            refine stepStore (by rfl) _ _ _ (by rfl) C (ccl ht h (.slice sa sn sc)) (by kernel_rfl) (by kernel_rfl) H126.out.head 34 (by kernel_rfl) (ccl_len _ _ _ HL.out) (ccl_len _ _ _ HL.out) (one_ccl _ _ _ _ _) ?_
            simp only [Act.put]
            have H128 := WirS.hide (bag_row H126.out (ccl ht h (.slice sa sn sc)))
            clear H126
            generalize World.setRow u124 C _ = u127 at *
            go_wp2_with fail
            go_roundw
            case rel =>
              refine ⟨k + 1, without left 0, insV al v, x, (insV y v), l2a, l2c, da, dn, dc, xa, xn, xc, sa, sn, sc, rfl, by go_num, by have h1 := HWL.out; have h2 := HKL.out; omega, HG2.out, ?_⟩
              exact (H128.out.perm (show [box TC C (ccl ht h (.slice sa sn sc)), ownt (.slice sa sn sc) (insV y v), box TC A (ccl ht h (.slice da dn dc)), box TC L109 (ccl ht h (.slice da dn dc)), ownt (.slice da dn dc) (insV al v), ownt (.slice l2a (without left 0).length l2c) (without left 0), box TV L95 v.cells, box TC B (ccl ht h (.slice xa xn xc)), ownt (.slice (some ⟨g, 0, none⟩) left.length lc) left, ownt (.slice aa an ac) al, ownt (.slice xa xn xc) x, ownt (.slice ya yn yc) y, box TC X (ccl ht h (.slice a n c))].Perm [box TC L109 (ccl ht h (.slice da dn dc)), box TV L95 v.cells, ownt (.slice (some ⟨g, 0, none⟩) left.length lc) left, ownt (.slice aa an ac) al, ownt (.slice ya yn yc) y, box TC A (ccl ht h (.slice da dn dc)), box TC B (ccl ht h (.slice xa xn xc)), box TC C (ccl ht h (.slice sa sn sc)), ownt (.slice l2a (without left 0).length l2c) (without left 0), ownt (.slice da dn dc) (insV al v), ownt (.slice xa xn xc) x, ownt (.slice sa sn sc) (insV y v), box TC X (ccl ht h (.slice a n c))] from ((List.perm_middle (l₁ := [box TC C (ccl ht h (.slice sa sn sc)), ownt (.slice sa sn sc) (insV y v), box TC A (ccl ht h (.slice da dn dc))])).trans (.cons _ ((List.perm_middle (l₁ := [box TC C (ccl ht h (.slice sa sn sc)), ownt (.slice sa sn sc) (insV y v), box TC A (ccl ht h (.slice da dn dc)), ownt (.slice da dn dc) (insV al v), ownt (.slice l2a (without left 0).length l2c) (without left 0)])).trans (.cons _ ((List.perm_middle (l₁ := [box TC C (ccl ht h (.slice sa sn sc)), ownt (.slice sa sn sc) (insV y v), box TC A (ccl ht h (.slice da dn dc)), ownt (.slice da dn dc) (insV al v), ownt (.slice l2a (without left 0).length l2c) (without left 0), box TC B (ccl ht h (.slice xa xn xc))])).trans (.cons _ ((List.perm_middle (l₁ := [box TC C (ccl ht h (.slice sa sn sc)), ownt (.slice sa sn sc) (insV y v), box TC A (ccl ht h (.slice da dn dc)), ownt (.slice da dn dc) (insV al v), ownt (.slice l2a (without left 0).length l2c) (without left 0), box TC B (ccl ht h (.slice xa xn xc))])).trans (.cons _ ((List.perm_middle (l₁ := [box TC C (ccl ht h (.slice sa sn sc)), ownt (.slice sa sn sc) (insV y v), box TC A (ccl ht h (.slice da dn dc)), ownt (.slice da dn dc) (insV al v), ownt (.slice l2a (without left 0).length l2c) (without left 0), box TC B (ccl ht h (.slice xa xn xc)), ownt (.slice xa xn xc) x])).trans (.cons _ ((List.perm_middle (l₁ := [box TC C (ccl ht h (.slice sa sn sc)), ownt (.slice sa sn sc) (insV y v)])).trans (.cons _ ((List.perm_middle (l₁ := [box TC C (ccl ht h (.slice sa sn sc)), ownt (.slice sa sn sc) (insV y v), ownt (.slice da dn dc) (insV al v), ownt (.slice l2a (without left 0).length l2c) (without left 0)])).trans (.cons _ ((List.perm_middle (l₁ := [])).trans (.cons _ ((List.perm_middle (l₁ := [ownt (.slice sa sn sc) (insV y v), ownt (.slice da dn dc) (insV al v)])).trans (.cons _ ((List.perm_middle (l₁ := [ownt (.slice sa sn sc) (insV y v)])).trans (.cons _ ((List.perm_middle (l₁ := [ownt (.slice sa sn sc) (insV y v)])).trans (.cons _ ((List.perm_middle (l₁ := [])).trans (.cons _ ((List.perm_middle (l₁ := [])).trans (.cons _ (.refl _))))))))))))))))))))))))))))).drop.drop.drop.drop.drop
            case measure => have h1 := HWL.out; simp [vlen]; omega
        · go_upto_region 20 with fail
          refine wp_region_lit ?_
          refine sV (.int .i64 (k : Int)) (u117) (by kernel_rfl) (by kernel_rfl) ?_
          simp only [Act.put, List.setIfInBounds_toArray, List.set_cons_succ, List.set_cons_zero]
          refine sV (.slice pa pn pc) (u117) (by kernel_rfl) (by kernel_rfl) ?_
          simp only [Act.put, List.setIfInBounds_toArray, List.set_cons_succ, List.set_cons_zero]
          refine sV (.int .i64 (pn : Int)) (u117) (by kernel_rfl) (by kernel_rfl) ?_
          simp only [Act.put, List.setIfInBounds_toArray, List.set_cons_succ, List.set_cons_zero]
          refine sV (.bool (decide ((k : Int) < (pn : Int)))) (u117) (by kernel_rfl) (by kernel_rfl) ?_
          simp only [Act.put, List.setIfInBounds_toArray, List.set_cons_succ, List.set_cons_zero]
          rw [show decide ((k : Int) < (pn : Int)) = false by simp; omega]
          refine sV (.bool false) (u117) (by kernel_rfl) (by kernel_rfl) ?_
          simp only [Act.put, List.setIfInBounds_toArray, List.set_cons_succ, List.set_cons_zero]
          with_reducible refine sS (by kernel_rfl) ?_
          simp only [Act.put, List.setIfInBounds_toArray, List.set_cons_succ, List.set_cons_zero]
          with_reducible refine sS (by kernel_rfl) ?_
          simp only [Act.put, List.setIfInBounds_toArray, List.set_cons_succ, List.set_cons_zero]
          with_reducible refine sS (by kernel_rfl) ?_
          simp only [Act.put, List.setIfInBounds_toArray, List.set_cons_succ, List.set_cons_zero]
          with_reducible refine sS (by kernel_rfl) ?_
          simp only [Act.put, List.setIfInBounds_toArray, List.set_cons_succ, List.set_cons_zero]
          refine sV (.bool false) (u117) (by kernel_rfl) (by kernel_rfl) ?_
          simp only [Act.put, List.setIfInBounds_toArray, List.set_cons_succ, List.set_cons_zero]
          go_upto_region 22 with fail
          refine wp_region_lit ?_
          refine sL (by kernel_rfl) _ _ (by rfl) _ (by kernel_rfl) (H118.out.all (box TC C (ccl ht h (.slice ya yn yc))) (by simp)).1 _ _ UC rfl (by kernel_rfl) (by rw [ccl_len _ _ _ HL.out]) ?_
          simp only [Act.put, List.setIfInBounds_toArray, List.set_cons_succ, List.set_cons_zero]
          refine sL (by kernel_rfl) _ _ (by rfl) _ (by kernel_rfl) (H118.out.all (box TV L95 v.cells) (by simp)).1 _ _ Try.underlying119 rfl (by kernel_rfl) (by rfl) ?_
          simp only [Act.put, List.setIfInBounds_toArray, List.set_cons_succ, List.set_cons_zero]
          refine sCx (by kernel_rfl) (by kernel_rfl) (add_ok u117 ht h ya yn yc y v HL.out ((show OwnT u117 (.slice ya yn yc) y from (H118.out.all (ownt (.slice ya yn yc) y) (by simp)).1).vin) (by have e1 := ((show OwnT u117 (.slice ya yn yc) y from (H118.out.all (ownt (.slice ya yn yc) y) (by simp)).1).vin).len; have e2 := HN1.out; omega) HVO.out HC3.out HST.out.1 (by rw [HST.out.2.2.2.1]; rfl)) ?_
          rintro e u129 ⟨sa, sn, sc, rfl, ho, hnb, hb⟩
          refine ⟨_, rfl, ?_⟩
          simp only [Act.put, List.setIfInBounds_toArray, List.set_cons_succ, List.set_cons_zero]
          have H130 := WirS.hide (bag_ownt H118.out ho hnb hb)
          clear H118
          clear ho hnb hb
          refine sV (.tuple #[.agg (ccl ht h (.slice sa sn sc)).toArray, .int .i64 0]) (u129) (by kernel_rfl) (by kernel_rfl) ?_
          simp only [Act.put, List.setIfInBounds_toArray, List.set_cons_succ, List.set_cons_zero]
          refine sV (.agg (ccl ht h (.slice sa sn sc)).toArray) (u129) (by kernel_rfl) (by kernel_rfl) ?_
          simp only [Act.put, List.setIfInBounds_toArray, List.set_cons_succ, List.set_cons_zero]
          refine sV (.int .i64 0) (u129) (by kernel_rfl) (by kernel_rfl) ?_
          simp only [Act.put, List.setIfInBounds_toArray, List.set_cons_succ, List.set_cons_zero]
          have H131 := WirS.hide (H130.out.perm (show [ownt (.slice sa sn sc) (insV y v), box TC A (ccl ht h (.slice da dn dc)), box TC L109 (ccl ht h (.slice da dn dc)), ownt (.slice da dn dc) (insV al v), ownt (.slice l2a (without left 0).length l2c) (without left 0), box TV L95 v.cells, box TC B (ccl ht h (.slice xa xn xc)), box TC C (ccl ht h (.slice ya yn yc)), ownt (.slice (some ⟨g, 0, none⟩) left.length lc) left, ownt (.slice aa an ac) al, ownt (.slice xa xn xc) x, ownt (.slice ya yn yc) y, box TC X (ccl ht h (.slice a n c))].Perm [box TC C (ccl ht h (.slice ya yn yc)), ownt (.slice sa sn sc) (insV y v), box TC A (ccl ht h (.slice da dn dc)), box TC L109 (ccl ht h (.slice da dn dc)), ownt (.slice da dn dc) (insV al v), ownt (.slice l2a (without left 0).length l2c) (without left 0), box TV L95 v.cells, box TC B (ccl ht h (.slice xa xn xc)), ownt (.slice (some ⟨g, 0, none⟩) left.length lc) left, ownt (.slice aa an ac) al, ownt (.slice xa xn xc) x, ownt (.slice ya yn yc) y, box TC X (ccl ht h (.slice a n c))] from ((List.perm_middle (l₁ := [ownt (.slice sa sn sc) (insV y v), box TC A (ccl ht h (.slice da dn dc)), box TC L109 (ccl ht h (.slice da dn dc)), ownt (.slice da dn dc) (insV al v), ownt (.slice l2a (without left 0).length l2c) (without left 0), box TV L95 v.cells, box TC B (ccl ht h (.slice xa xn xc))])).trans (.cons _ ((List.perm_middle (l₁ := [])).trans (.cons _ ((List.perm_middle (l₁ := [])).trans (.cons _ ((List.perm_middle (l₁ := [])).trans (.cons _ ((List.perm_middle (l₁ := [])).trans (.cons _ ((List.perm_middle (l₁ := [])).trans (.cons _ ((List.perm_middle (l₁ := [])).trans (.cons _ ((List.perm_middle (l₁ := [])).trans (.cons _ ((List.perm_middle (l₁ := [])).trans (.cons _ ((List.perm_middle (l₁ := [])).trans (.cons _ ((List.perm_middle (l₁ := [])).trans (.cons _ ((List.perm_middle (l₁ := [])).trans (.cons _ ((List.perm_middle (l₁ := [])).trans (.cons _ (.refl _)))))))))))))))))))))))))))))
          clear H130
          refine stepStore (by rfl) _ _ _ (by rfl) C (ccl ht h (.slice sa sn sc)) (by kernel_rfl) (by kernel_rfl) H131.out.head 34 (by kernel_rfl) (ccl_len _ _ _ HL.out) (ccl_len _ _ _ HL.out) (one_ccl _ _ _ _ _) ?_
          simp only [Act.put]
          have H133 := WirS.hide (bag_row H131.out (ccl ht h (.slice sa sn sc)))
          clear H131
          generalize World.setRow u129 C _ = u132 at *
          go_wp2_with fail
          go_roundw
          case rel =>
            refine ⟨k + 1, without left 0, insV al v, x, (insV y v), l2a, l2c, da, dn, dc, xa, xn, xc, sa, sn, sc, rfl, by go_num, by have h1 := HWL.out; have h2 := HKL.out; omega, HG2.out, ?_⟩
            exact (H133.out.perm (show [box TC C (ccl ht h (.slice sa sn sc)), ownt (.slice sa sn sc) (insV y v), box TC A (ccl ht h (.slice da dn dc)), box TC L109 (ccl ht h (.slice da dn dc)), ownt (.slice da dn dc) (insV al v), ownt (.slice l2a (without left 0).length l2c) (without left 0), box TV L95 v.cells, box TC B (ccl ht h (.slice xa xn xc)), ownt (.slice (some ⟨g, 0, none⟩) left.length lc) left, ownt (.slice aa an ac) al, ownt (.slice xa xn xc) x, ownt (.slice ya yn yc) y, box TC X (ccl ht h (.slice a n c))].Perm [box TC L109 (ccl ht h (.slice da dn dc)), box TV L95 v.cells, ownt (.slice (some ⟨g, 0, none⟩) left.length lc) left, ownt (.slice aa an ac) al, ownt (.slice ya yn yc) y, box TC A (ccl ht h (.slice da dn dc)), box TC B (ccl ht h (.slice xa xn xc)), box TC C (ccl ht h (.slice sa sn sc)), ownt (.slice l2a (without left 0).length l2c) (without left 0), ownt (.slice da dn dc) (insV al v), ownt (.slice xa xn xc) x, ownt (.slice sa sn sc) (insV y v), box TC X (ccl ht h (.slice a n c))] from ((List.perm_middle (l₁ := [box TC C (ccl ht h (.slice sa sn sc)), ownt (.slice sa sn sc) (insV y v), box TC A (ccl ht h (.slice da dn dc))])).trans (.cons _ ((List.perm_middle (l₁ := [box TC C (ccl ht h (.slice sa sn sc)), ownt (.slice sa sn sc) (insV y v), box TC A (ccl ht h (.slice da dn dc)), ownt (.slice da dn dc) (insV al v), ownt (.slice l2a (without left 0).length l2c) (without left 0)])).trans (.cons _ ((List.perm_middle (l₁ := [box TC C (ccl ht h (.slice sa sn sc)), ownt (.slice sa sn sc) (insV y v), box TC A (ccl ht h (.slice da dn dc)), ownt (.slice da dn dc) (insV al v), ownt (.slice l2a (without left 0).length l2c) (without left 0), box TC B (ccl ht h (.slice xa xn xc))])).trans (.cons _ ((List.perm_middle (l₁ := [box TC C (ccl ht h (.slice sa sn sc)), ownt (.slice sa sn sc) (insV y v), box TC A (ccl ht h (.slice da dn dc)), ownt (.slice da dn dc) (insV al v), ownt (.slice l2a (without left 0).length l2c) (without left 0), box TC B (ccl ht h (.slice xa xn xc))])).trans (.cons _ ((List.perm_middle (l₁ := [box TC C (ccl ht h (.slice sa sn sc)), ownt (.slice sa sn sc) (insV y v), box TC A (ccl ht h (.slice da dn dc)), ownt (.slice da dn dc) (insV al v), ownt (.slice l2a (without left 0).length l2c) (without left 0), box TC B (ccl ht h (.slice xa xn xc)), ownt (.slice xa xn xc) x])).trans (.cons _ ((List.perm_middle (l₁ := [box TC C (ccl ht h (.slice sa sn sc)), ownt (.slice sa sn sc) (insV y v)])).trans (.cons _ ((List.perm_middle (l₁ := [box TC C (ccl ht h (.slice sa sn sc)), ownt (.slice sa sn sc) (insV y v), ownt (.slice da dn dc) (insV al v), ownt (.slice l2a (without left 0).length l2c) (without left 0)])).trans (.cons _ ((List.perm_middle (l₁ := [])).trans (.cons _ ((List.perm_middle (l₁ := [ownt (.slice sa sn sc) (insV y v), ownt (.slice da dn dc) (insV al v)])).trans (.cons _ ((List.perm_middle (l₁ := [ownt (.slice sa sn sc) (insV y v)])).trans (.cons _ ((List.perm_middle (l₁ := [ownt (.slice sa sn sc) (insV y v)])).trans (.cons _ ((List.perm_middle (l₁ := [])).trans (.cons _ ((List.perm_middle (l₁ := [])).trans (.cons _ (.refl _))))))))))))))))))))))))))))).drop.drop.drop.drop.drop
          case measure => have h1 := HWL.out; simp [vlen]; omega
theorem grow_any (w : World) (ht : Int) (h : List Int) (a : Option Addr) (n c : Nat) (vs : List Vt) (oa : Option Addr) (on oc : Nat) (fo : Nat → Int) (pa : Option Addr) (pn pc : Nat) (fp : Nat → Bool) (hl : h.length = 32) (hv : VtIn w a n c vs) (ho : SIn w (fun i => .int .i64 (fo i)) oa on) (hp : SIn w (fun i => .bool (fp i)) pa pn) : Calls Try.prog 15 #[.agg (ccl ht h (.slice a n c)).toArray, .slice oa on oc, .slice pa pn pc] w fun e w' => e = .returned (.bool true) ∧ Below w.heap.size w w' := by
  by_cases h1 : 70 < n
  · exact grow_a w ht h a n c vs oa on oc fo pa pn pc fp hl hv ho hp h1
  by_cases h2 : 100 < on
  · exact grow_b w ht h a n c vs oa on oc fo pa pn pc fp hl hv ho hp h1 h2
  by_cases h3 : 100 < pn
  · exact grow_c w ht h a n c vs oa on oc fo pa pn pc fp hl hv ho hp h1 h2 h3
  by_cases h4 : chk ht vs = 0
  · exact grow_e w ht h a n c vs oa on oc fo pa pn pc fp hl hv ho hp h1 h2 h3 h4
  · exact grow_d w ht h a n c vs oa on oc fo pa pn pc fp hl hv ho hp h1 h2 h3 h4

/-! ### Lists that come in -/
open Go.ChangeShapes Go.WideShapes Go.ChangeAt in
theorem slice_in {H : Type} {enc : TypeId × Value → H} {W : World} {t e : TypeId} {β : Type} [Inhabited β] (mk : β → Value) (hT : Try.prog.underlying t = some (.slice e)) (cE : Try.prog.cellsOf e = 1)
    (hel : ∀ (n : Nat) (cs : List Value) (x : DataW H × List MemPlace), DataW.trod enc Try.prog W 0 (fun _ => true) true n e cs = some x → ∃ b, cs = [mk b]) {fuel : Nat} {cs : List Value} {x : DataW H × List MemPlace} (h : DataW.trod enc Try.prog W 0 (fun _ => true) true fuel t cs = some x) :
    ∃ la ln lc, ∃ f : Nat → β, cs = [.slice la ln lc] ∧ SIn W (fun i => mk (f i)) la ln := by
  rcases DataW.trod_slice hT h with ⟨hcs, _⟩ | ⟨a, len, cap, elems, rest, n, _, hcs, _, _, hl, hm, hlen, hl2, _, _⟩
  · exact ⟨none, 0, 0, fun _ => default, hcs, ⟨fun h => absurd h (by decide)⟩⟩
  · rw [cE] at hl2
    have each : ∀ i, i < len → ∃ b : β, W.cell? (a.add i) = some (mk b) := by
      intro i hi
      have h1 := hl2 i hi
      rw [List.getElem?_eq_getElem (show i < elems.length by omega), Option.bind_eq_some_iff, Nat.mul_one] at h1
      obtain ⟨cs', hc, ht⟩ := h1
      obtain ⟨_, hcl, hat⟩ := World.cells?_some hc
      obtain ⟨b, rfl⟩ := hel _ _ _ ht
      refine ⟨b, ?_⟩
      have := hat 0 (by decide)
      simpa [Addr.add] using this
    obtain ⟨l, hll, hp⟩ := CmW.list_of len each
    refine ⟨some a, len, cap, fun i => l.getD i default, hcs, ⟨fun hpos => ?_⟩⟩
    obtain ⟨b, off, spot⟩ := a
    obtain ⟨b0, h0⟩ := each 0 hpos
    have hspot : spot = none := by simpa [Addr.add] using World.cell?_spot h0
    subst hspot
    refine ⟨b, off, rfl, ?_, fun i hi => ?_⟩
    · rw [Go.WideShapes.add_plain] at h0
      unfold World.cell? at h0
      rcases Nat.lt_or_ge b W.heap.size with h | h
      · exact h
      · have : W.heap[b]? = none := by simp [h]
        simp [this] at h0
    · have h2 := hp i (l.getD i default) (by rw [List.getD_eq_getElem?_getD, List.getElem?_eq_getElem (by omega)]; rfl)
      rw [Go.WideShapes.add_plain] at h2
      exact h2
open Go.ChangeShapes Go.WideShapes Go.ChangeAt in
theorem ints_in {H : Type} {enc : TypeId × Value → H} {W : World} {fuel : Nat} {cs : List Value} {x : DataW H × List MemPlace} (h : DataW.trod enc Try.prog W 0 (fun _ => true) true fuel 77 cs = some x) :
    ∃ la ln lc, ∃ f : Nat → Int, cs = [.slice la ln lc] ∧ SIn W (fun i => .int .i64 (f i)) la ln :=
  slice_in (fun i : Int => .int .i64 i) Try.underlying77 (by kernel_rfl) (fun n cs x h => by obtain ⟨b, hb, _⟩ := DataW.trod_int Try.underlying3 h; exact ⟨b, hb⟩) h
open Go.ChangeShapes Go.WideShapes Go.ChangeAt in
theorem bools_in {H : Type} {enc : TypeId × Value → H} {W : World} {fuel : Nat} {cs : List Value} {x : DataW H × List MemPlace} (h : DataW.trod enc Try.prog W 0 (fun _ => true) true fuel 117 cs = some x) :
    ∃ la ln lc, ∃ f : Nat → Bool, cs = [.slice la ln lc] ∧ SIn W (fun i => .bool (f i)) la ln :=
  slice_in (fun i : Bool => .bool i) Try.underlying117 (by kernel_rfl) (fun n cs x h => by obtain ⟨b, hb, _⟩ := DataW.trod_bool Try.underlying4 h; exact ⟨b, hb⟩) h
theorem grow_row (w : World) (ht : Int) (h : List Int) (a : Option Addr) (n c : Nat) (vs : List Vt) (oa : Option Addr) (on oc : Nat) (fo : Nat → Int) (pa : Option Addr) (pn pc : Nat) (fp : Nat → Bool)
    (hc : h.length = 32 ∧ VtIn w a n c vs ∧ (∀ z ∈ h, 0 ≤ z ∧ z < 256) ∧ -9223372036854775808 ≤ ht ∧ ht < 9223372036854775808) (ho : SIn w (fun i => .int .i64 (fo i)) oa on) (hp : SIn w (fun i => .bool (fp i)) pa pn) :
    Calls Try.prog 15 #[.agg (ccl ht h (.slice a n c)).toArray, .slice oa on oc, .slice pa pn pc] w fun e w' => e = .returned (.bool true) ∧ Below w.heap.size w w' :=
  grow_any w ht h a n c vs oa on oc fo pa pn pc fp hc.1 hc.2.1 ho hp
end CmGr
end Go.Proofs.Ythcemghamdmjmaa
