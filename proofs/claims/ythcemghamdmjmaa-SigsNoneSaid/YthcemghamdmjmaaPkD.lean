/-
  WirN, WirO, WirP, WirQ, WirR, WirT, in one text.
-/
import Derived.Test.YthcemghamdmjmaaPkC
namespace Go.Proofs.Ythcemghamdmjmaa
namespace WirN
open Go.RowKit
open BlkM WirM WirS WirA WirB WirE WirF WirG WirH WirI WirJ WirK WirL

/-- builtin copy, by what it yields here. -/
theorem sCopy {P : Program} {ops : Array Oper} {rest : List Oper} {o : Oper} {a : Act} {w : World} {Q : Exit → Act → World → Prop} (hw : Region.wanted o (yielded ops a.tmps) = true) (t tx : TypeId) (x y : Operand) (ho : o.op = .call { callee := .builtin .copy, args := #[x, y], argTypes := #[t, tx] }) (v s : Value) (hx : a.eval x = v) (hy : a.eval y = s)
    (v' : Value) (w' : World) (hr : (Builtin.copy_ #[t, tx] o.type #[v, s]).run P w = .ok v' w') (h : wpList P ops Q rest (a.put o.dst v') w') : wpList P ops Q (o :: rest) a w :=
  stepW hw fun _ hK => by
    unfold Oper.wp execOp
    simp only [ho, resolve, invoke, builtin, Sem.run_bind, Sem.run_pure, Result.andThen_ok, List.map_toArray, List.map_cons, List.map_nil, hx, hy, hr]
    exact hK _ _ h
/-- A whole array sliced. -/
theorem sSl {P : Program} {ops : Array Oper} {rest : List Oper} {o : Oper} {a : Act} {w : World} {Q : Exit → Act → World → Prop} (hw : Region.wanted o (yielded ops a.tmps) = true) (ty : TypeId) (x : Operand) (ho : o.op = .slice ty x none none none) (p v : Value) (hx : a.eval x = p)
    (hr : (Instr.sliceAt ty p none none none).run P w = .ok v w) (h : wpList P ops Q rest (a.put o.dst v) w) : wpList P ops Q (o :: rest) a w :=
  sV v w hw (by
    unfold execOp
    simp only [ho, hx, Option.map_none, Sem.run_bind, hr, Result.andThen_ok, Sem.run_pure]) h
def zz (n : Nat) : List Int := List.replicate n 0
theorem al_hash (a : Operand → Value) (o : Oper) (ho : o.op = Op.alloc 34) (W : World) : (execOp a o).run Try.prog W = .ok (.value (.pointer (some ⟨W.heap.size, 0, none⟩))) (W.alloc (.cells (b8 (zz 32)).toArray 34)) := by
  unfold execOp
  rw [ho]
  kernel_rfl
theorem cp_hash (w : World) (a : Option Addr) (n c : Nat) (zs : List Int) (h : BIn w (.slice a n c) zs) (hl : zs.length = 32) (ty : TypeId) :
    (Builtin.copy_ #[32, 32] ty #[.slice (some ⟨w.heap.size, 0, none⟩) 32 32, .slice a n c]).run Try.prog (w.alloc (.cells (b8 (zz 32)).toArray 34)) = .ok (.int .i64 32) ((w.alloc (.cells (b8 (zz 32)).toArray 34)).setCells w.heap.size 0 (b8 zs)) := by
  have hb := h.below (Below.alloc (Below.refl _ _) (Nat.le_refl _) (.cells (b8 (zz 32)).toArray 34))
  obtain ⟨a', c', e1, _, hz⟩ := hb
  obtain ⟨rfl, rfl, rfl⟩ : a = a' ∧ n = zs.length ∧ c = c' := by cases e1; exact ⟨rfl, rfl, rfl⟩
  obtain ⟨B, o, rfl, _, hc⟩ := hz (by intro h; subst h; simp at hl)
  have hA := At.new w 34 (b8 (zz 32))
  have hcl : (b8 zs).length = 32 := by rw [b8_len, hl]
  have key := run_copy_cells (P := Try.prog) (w.alloc (.cells (b8 (zz 32)).toArray 34)) 32 32 ty 5 w.heap.size 0 32 32 ⟨B, o, none⟩ zs.length c (b8 zs) Try.underlying32 (by kernel_rfl) (by rw [hcl, hl]; rfl)
    (fun j v hj => by
      have hjl : j < zs.length := by
        have := (List.getElem?_eq_some_iff.1 hj).1
        omega
      rw [b8_get zs j hjl] at hj
      rw [Addr.add_lit, hc j hjl]
      exact hj)
    (fun j hj => by rw [hA.cell]; simp [b8, zz]; omega) (fun j _ => hA.frozen _) (one_b8 zs)
  rw [key, hcl]
  rfl
theorem sl_hash (D : Nat) (Y : World) : (Instr.sliceAt 34 (.pointer (some ⟨D, 0, none⟩)) none none none).run Try.prog Y = .ok (.slice (some ⟨D, 0, none⟩) 32 32) Y := by
  have ha : Try.prog.arrayLen 34 = 32 := by kernel_rfl
  rw [run_sliceAt_array_all Y 34 ⟨D, 0, none⟩ (by kernel_rfl), ha]
  have hs : (sizeOf (Try.prog.elem 34)).run Try.prog Y = .ok 1 Y := by kernel_rfl
  rw [hs]
  simp [slicedAt, Addr.add_lit]
set_option maxHeartbeats 1000000 in
theorem hash_any (w : World) (a : Option Addr) (n c : Nat) (zs : List Int) (h : BIn w (.slice a n c) zs) (hl : zs.length = 32) :
    Calls Try.prog 137 #[.slice a n c] w fun e w' => e = .returned (.agg (b8 zs).toArray) ∧ Below w.heap.size w w' := by
  obtain ⟨W0, e0⟩ : ∃ X, X = w.alloc (.cells (b8 (zz 32)).toArray 34) := ⟨_, rfl⟩
  obtain ⟨W1, e1⟩ : ∃ X, X = W0.setCells w.heap.size 0 (b8 zs) := ⟨_, rfl⟩
  have hA0 : At W0 w.heap.size 34 (b8 (zz 32)) := by rw [e0]; exact At.new _ _ _
  have hB0 : Below w.heap.size w W0 := by rw [e0]; exact Below.alloc (Below.refl _ _) (Nat.le_refl _) _
  have hA1 : At W1 w.heap.size 34 (b8 zs) := by
    rw [e1]
    have := heap_setCells_one w.heap.size 34 (b8 zs) 0 (b8 (zz 32)) W0 hA0 (by rw [b8_len, b8_len, hl]; simp [zz])
    rw [List.take_zero, List.nil_append, List.drop_of_length_le (by rw [b8_len, b8_len, hl]; simp [zz]), List.append_nil] at this
    exact this
  have hB1 : Below w.heap.size w W1 := by
    rw [e1]
    exact hB0.trans ((fr_setCells w.heap.size (b8 zs) 0 W0 W0 (Fr.refl _ _)).below (B := w.heap.size) hB0.size (fun k hk hx => by omega))
  have hc := cp_hash w a n c zs h hl 3
  rw [← e0, ← e1] at hc
  have hlen : (b8 zs).length = 32 := by rw [b8_len, hl]
  have hs := sl_hash w.heap.size W0
  have E0 := hide e0
  have HA1 := hide hA1
  have HB1 := hide hB1
  have HL := hide hlen
  clear e0 e1 hA0 hB0 hA1 hB1 hlen hl h
  go_enter Try.func137, Try.ntmps137
  go_upto_region 1 with fail
  rw [show w.alloc (.cells #[.int .u8 0, .int .u8 0, .int .u8 0, .int .u8 0, .int .u8 0, .int .u8 0, .int .u8 0, .int .u8 0, .int .u8 0, .int .u8 0, .int .u8 0, .int .u8 0, .int .u8 0, .int .u8 0, .int .u8 0, .int .u8 0, .int .u8 0, .int .u8 0, .int .u8 0, .int .u8 0, .int .u8 0, .int .u8 0, .int .u8 0, .int .u8 0, .int .u8 0, .int .u8 0, .int .u8 0, .int .u8 0, .int .u8 0, .int .u8 0, .int .u8 0, .int .u8 0] 34) = W0 from E0.out.symm]
  refine wp_region_lit ?_
  refine sSl (by kernel_rfl) _ _ (by rfl) (.pointer (some ⟨w.heap.size, 0, none⟩)) (.slice (some ⟨w.heap.size, 0, none⟩) 32 32) (by kernel_rfl) hs ?_
  simp only [Act.put, List.setIfInBounds_toArray, List.set_cons_succ, List.set_cons_zero]
  refine sV (.slice a n c) (W0) (by kernel_rfl) (by kernel_rfl) ?_
  simp only [Act.put, List.setIfInBounds_toArray, List.set_cons_succ, List.set_cons_zero]
  refine sCopy (by kernel_rfl) 32 32 _ _ (by rfl) (.slice (some ⟨w.heap.size, 0, none⟩) 32 32) (.slice a n c) (by kernel_rfl) (by kernel_rfl) (.int .i64 32) W1 hc ?_
  simp only [Act.put, List.setIfInBounds_toArray, List.set_cons_succ, List.set_cons_zero]
  clear hs hc
  go_upto_region 2 with fail
  refine wp_region_lit ?_
  refine sL (by kernel_rfl) _ _ (by rfl) _ (by kernel_rfl) HA1.out _ 32 Try.underlying34 rfl (by kernel_rfl) HL.out ?_
  simp only [Act.put, List.setIfInBounds_toArray, List.set_cons_succ, List.set_cons_zero]
  refine stepStore (by rfl) _ _ _ (by rfl) _ (b8 zs) (by kernel_rfl) (by kernel_rfl) HA1.out 32 (by kernel_rfl) HL.out HL.out (all_oneCell_toArray (one_b8 _)) ?_
  obtain ⟨WL, eWL⟩ : ∃ X, X = W1.setRow w.heap.size (b8 zs).toArray := ⟨_, rfl⟩
  have HAL := hide (show At WL w.heap.size 34 (b8 zs) by rw [eWL]; exact HA1.out.put _)
  have HBL := hide (show Below w.heap.size w WL by rw [eWL]; exact Below.setRowOwn HB1.out (Nat.le_refl _) _)
  rw [← eWL]
  clear eWL
  go_wp2_with fail
  exact bodyPost_ret (retRow HAL.out Try.results137 _ (by rfl) (.array 32 5) 32 Try.underlying34 rfl (by kernel_rfl) HL.out) rfl ⟨rfl, HBL.out⟩
theorem al_key (a : Operand → Value) (o : Oper) (ho : o.op = Op.alloc 36) (W : World) : (execOp a o).run Try.prog W = .ok (.value (.pointer (some ⟨W.heap.size, 0, none⟩))) (W.alloc (.cells (b8 (zz 4)).toArray 36)) := by
  unfold execOp
  rw [ho]
  kernel_rfl
theorem cp_key (w : World) (a : Option Addr) (n c : Nat) (zs : List Int) (h : BIn w (.slice a n c) zs) (hl : zs.length = 4) (ty : TypeId) :
    (Builtin.copy_ #[32, 32] ty #[.slice (some ⟨w.heap.size, 0, none⟩) 4 4, .slice a n c]).run Try.prog (w.alloc (.cells (b8 (zz 4)).toArray 36)) = .ok (.int .i64 4) ((w.alloc (.cells (b8 (zz 4)).toArray 36)).setCells w.heap.size 0 (b8 zs)) := by
  have hb := h.below (Below.alloc (Below.refl _ _) (Nat.le_refl _) (.cells (b8 (zz 4)).toArray 36))
  obtain ⟨a', c', e1, _, hz⟩ := hb
  obtain ⟨rfl, rfl, rfl⟩ : a = a' ∧ n = zs.length ∧ c = c' := by cases e1; exact ⟨rfl, rfl, rfl⟩
  obtain ⟨B, o, rfl, _, hc⟩ := hz (by intro h; subst h; simp at hl)
  have hA := At.new w 36 (b8 (zz 4))
  have hcl : (b8 zs).length = 4 := by rw [b8_len, hl]
  have key := run_copy_cells (P := Try.prog) (w.alloc (.cells (b8 (zz 4)).toArray 36)) 32 32 ty 5 w.heap.size 0 4 4 ⟨B, o, none⟩ zs.length c (b8 zs) Try.underlying32 (by kernel_rfl) (by rw [hcl, hl]; rfl)
    (fun j v hj => by
      have hjl : j < zs.length := by
        have := (List.getElem?_eq_some_iff.1 hj).1
        omega
      rw [b8_get zs j hjl] at hj
      rw [Addr.add_lit, hc j hjl]
      exact hj)
    (fun j hj => by rw [hA.cell]; simp [b8, zz]; omega) (fun j _ => hA.frozen _) (one_b8 zs)
  rw [key, hcl]
  rfl
theorem sl_key (D : Nat) (Y : World) : (Instr.sliceAt 36 (.pointer (some ⟨D, 0, none⟩)) none none none).run Try.prog Y = .ok (.slice (some ⟨D, 0, none⟩) 4 4) Y := by
  have ha : Try.prog.arrayLen 36 = 4 := by kernel_rfl
  rw [run_sliceAt_array_all Y 36 ⟨D, 0, none⟩ (by kernel_rfl), ha]
  have hs : (sizeOf (Try.prog.elem 36)).run Try.prog Y = .ok 1 Y := by kernel_rfl
  rw [hs]
  simp [slicedAt, Addr.add_lit]
set_option maxHeartbeats 1000000 in
theorem key_any (w : World) (a : Option Addr) (n c : Nat) (zs : List Int) (h : BIn w (.slice a n c) zs) (hl : zs.length = 4) :
    Calls Try.prog 141 #[.slice a n c] w fun e w' => e = .returned (.agg (b8 zs).toArray) ∧ Below w.heap.size w w' := by
  obtain ⟨W0, e0⟩ : ∃ X, X = w.alloc (.cells (b8 (zz 4)).toArray 36) := ⟨_, rfl⟩
  obtain ⟨W1, e1⟩ : ∃ X, X = W0.setCells w.heap.size 0 (b8 zs) := ⟨_, rfl⟩
  have hA0 : At W0 w.heap.size 36 (b8 (zz 4)) := by rw [e0]; exact At.new _ _ _
  have hB0 : Below w.heap.size w W0 := by rw [e0]; exact Below.alloc (Below.refl _ _) (Nat.le_refl _) _
  have hA1 : At W1 w.heap.size 36 (b8 zs) := by
    rw [e1]
    have := heap_setCells_one w.heap.size 36 (b8 zs) 0 (b8 (zz 4)) W0 hA0 (by rw [b8_len, b8_len, hl]; simp [zz])
    rw [List.take_zero, List.nil_append, List.drop_of_length_le (by rw [b8_len, b8_len, hl]; simp [zz]), List.append_nil] at this
    exact this
  have hB1 : Below w.heap.size w W1 := by
    rw [e1]
    exact hB0.trans ((fr_setCells w.heap.size (b8 zs) 0 W0 W0 (Fr.refl _ _)).below (B := w.heap.size) hB0.size (fun k hk hx => by omega))
  have hc := cp_key w a n c zs h hl 3
  rw [← e0, ← e1] at hc
  have hlen : (b8 zs).length = 4 := by rw [b8_len, hl]
  have hs := sl_key w.heap.size W0
  have E0 := hide e0
  have HA1 := hide hA1
  have HB1 := hide hB1
  have HL := hide hlen
  clear e0 e1 hA0 hB0 hA1 hB1 hlen hl h
  go_enter Try.func141, Try.ntmps141
  go_upto_region 1 with fail
  rw [show w.alloc (.cells #[.int .u8 0, .int .u8 0, .int .u8 0, .int .u8 0] 36) = W0 from E0.out.symm]
  refine wp_region_lit ?_
  refine sSl (by kernel_rfl) _ _ (by rfl) (.pointer (some ⟨w.heap.size, 0, none⟩)) (.slice (some ⟨w.heap.size, 0, none⟩) 4 4) (by kernel_rfl) hs ?_
  simp only [Act.put, List.setIfInBounds_toArray, List.set_cons_succ, List.set_cons_zero]
  refine sV (.slice a n c) (W0) (by kernel_rfl) (by kernel_rfl) ?_
  simp only [Act.put, List.setIfInBounds_toArray, List.set_cons_succ, List.set_cons_zero]
  refine sCopy (by kernel_rfl) 32 32 _ _ (by rfl) (.slice (some ⟨w.heap.size, 0, none⟩) 4 4) (.slice a n c) (by kernel_rfl) (by kernel_rfl) (.int .i64 4) W1 hc ?_
  simp only [Act.put, List.setIfInBounds_toArray, List.set_cons_succ, List.set_cons_zero]
  clear hs hc
  go_upto_region 2 with fail
  refine wp_region_lit ?_
  refine sL (by kernel_rfl) _ _ (by rfl) _ (by kernel_rfl) HA1.out _ 4 Try.underlying36 rfl (by kernel_rfl) HL.out ?_
  simp only [Act.put, List.setIfInBounds_toArray, List.set_cons_succ, List.set_cons_zero]
  refine stepStore (by rfl) _ _ _ (by rfl) _ (b8 zs) (by kernel_rfl) (by kernel_rfl) HA1.out 4 (by kernel_rfl) HL.out HL.out (all_oneCell_toArray (one_b8 _)) ?_
  obtain ⟨WL, eWL⟩ : ∃ X, X = W1.setRow w.heap.size (b8 zs).toArray := ⟨_, rfl⟩
  have HAL := hide (show At WL w.heap.size 36 (b8 zs) by rw [eWL]; exact HA1.out.put _)
  have HBL := hide (show Below w.heap.size w WL by rw [eWL]; exact Below.setRowOwn HB1.out (Nat.le_refl _) _)
  rw [← eWL]
  clear eWL
  go_wp2_with fail
  exact bodyPost_ret (retRow HAL.out Try.results141 _ (by rfl) (.array 4 5) 4 Try.underlying36 rfl (by kernel_rfl) HL.out) rfl ⟨rfl, HBL.out⟩
end WirN
end Go.Proofs.Ythcemghamdmjmaa

namespace Go.Proofs.Ythcemghamdmjmaa
namespace WirO
open Go.RowKit
open BlkM WirM WirS WirA WirB WirE WirF WirG WirH WirI WirJ WirK WirL WirN

def rowO (n : Nat) (bs : List Int) (at' : Nat) : Sum Int (List Int × Nat) :=
  if bs.length < at' + n then .inl 6 else .inr ((bs.drop at').take n, at' + n)
theorem Fr.setRow {X : Nat → Prop} {w w' : World} (h : Fr X w w') (V : Nat) (c : Array Value) (hV : V < w.heap.size → X V) : Fr X w (w'.setRow V c) :=
  ⟨h.os, h.tape, h.output, by simpa using h.size, fun k hk hx => by
    rw [setRow_other w' V k c (fun e => by subst e; exact hx (hV hk))]
    exact h.block k hk hx⟩
theorem RSt_row {w0 w : World} {R : Nat} {a : Option Addr} {c : Nat} {bs : List Int} {at' : Nat} {fe fa : Int} (h : RSt w R a c bs at' fe fa) (V : Nat) (cs : Array Value) (hV : R ≠ V) (ho : ∀ k, (Value.slice a bs.length c).ownBlock = some k → k < w0.heap.size) (h0 : w0.heap.size ≤ V) : RSt (w.setRow V cs) R a c bs at' fe fa :=
  h.fr (X := fun k => k = V) (Fr.setRow (Fr.refl _ w) V cs (fun _ => rfl)) hV (fun k hk hx => by
    have := ho k hk
    have hx' : k = V := hx
    omega)
theorem own_lt {w : World} {a : Option Addr} {n c : Nat} {zs : List Int} (h : BIn w (.slice a n c) zs) (hne : zs ≠ []) : ∀ k, (Value.slice a n c).ownBlock = some k → k < w.heap.size := by
  obtain ⟨a', c', e1, _, hz⟩ := h
  obtain ⟨rfl, rfl, rfl⟩ : a = a' ∧ n = zs.length ∧ c = c' := by cases e1; exact ⟨rfl, rfl, rfl⟩
  obtain ⟨B, o, rfl, hB, _⟩ := hz hne
  intro k hk
  simp [Value.ownBlock] at hk
  omega
set_option maxHeartbeats 1000000 in
theorem take_short_hash (w : World) (R : Nat) (a : Option Addr) (c : Nat) (bs : List Int) (at' : Nat) (fv : Value) (h : RSt w R a c bs at' 0 0) (hs : bs.length < at' + 32) :
    Calls Try.prog 136 #[.pointer (some ⟨R, 0, none⟩), .int .i64 32, fv] w (Bad w R a c bs 6) := by
  obtain ⟨W0, e0⟩ : ∃ X, X = w.alloc (.cells (b8 (zz 32)).toArray 34) := ⟨_, rfl⟩
  have hB0 : Below w.heap.size w W0 := by rw [e0]; exact Below.alloc (Below.refl _ _) (Nat.le_refl _) _
  have h0 := h.below hB0
  have c1 : W0.cell? ⟨R, 1, none⟩ = some (.slice a bs.length c) := by rw [h0.cell.cell]; rfl
  have c2 : W0.cell? ⟨R, 2, none⟩ = some (.int .i64 (at' : Int)) := by rw [h0.cell.cell]; rfl
  have hle := h.le
  have hsm := h.small
  have HR := hide (fun q => RSt_drawn h0 q)
  have HB0 := hide hB0
  have E0 := hide e0
  obtain ⟨k, hk⟩ : ∃ k, k = bs.length := ⟨_, rfl⟩
  rw [← hk] at hle hsm hs c1
  have w1 : IntKind.i64.wrap (↑k - ↑at') = (k : Int) - (at' : Int) := IntWalk.i64_in _ (by omega)
  have w3 : decide ((k : Int) - (at' : Int) < 32) = true := decide_eq_true (by omega)
  clear h hk h0 hB0 e0
  go_enter Try.func136, Try.ntmps136
  go_upto_region 1 with fail
  rw [show w.alloc (.cells #[.int .u8 0, .int .u8 0, .int .u8 0, .int .u8 0, .int .u8 0, .int .u8 0, .int .u8 0, .int .u8 0, .int .u8 0, .int .u8 0, .int .u8 0, .int .u8 0, .int .u8 0, .int .u8 0, .int .u8 0, .int .u8 0, .int .u8 0, .int .u8 0, .int .u8 0, .int .u8 0, .int .u8 0, .int .u8 0, .int .u8 0, .int .u8 0, .int .u8 0, .int .u8 0, .int .u8 0, .int .u8 0, .int .u8 0, .int .u8 0, .int .u8 0, .int .u8 0] 34) = W0 from E0.out.symm]
  go_quiet (fail)
  go_wp2_with fail
  exact ⟨rfl, rfl, ⟨at', HR.out _⟩, Fr.drewN (Fr.of_below HB0.out) _⟩
set_option maxRecDepth 8000 in
set_option maxHeartbeats 1000000 in
theorem take_hash (w : World) (R : Nat) (a : Option Addr) (c : Nat) (bs : List Int) (at' : Nat) (h : RSt w R a c bs at' 0 0) (hn : at' + 32 ≤ bs.length) :
    Calls Try.prog 136 #[.pointer (some ⟨R, 0, none⟩), .int .i64 32, .func (.func 137) #[] #[]] w (Got w R a c bs (.agg (b8 ((bs.drop at').take 32)).toArray) (at' + 32)) := by
  have hlt := h.lt
  have hzl : ((bs.drop at').take 32).length = 32 := by simp; omega
  obtain ⟨W0, e0⟩ : ∃ X, X = w.alloc (.cells (b8 (zz 32)).toArray 34) := ⟨_, rfl⟩
  have hB0 : Below w.heap.size w W0 := by rw [e0]; exact Below.alloc (Below.refl _ _) (Nat.le_refl _) _
  have hA0 : At W0 w.heap.size 34 (b8 (zz 32)) := by rw [e0]; exact At.new _ _ _
  have h0 := h.below hB0
  have c1 : W0.cell? ⟨R, 1, none⟩ = some (.slice a bs.length c) := by rw [h0.cell.cell]; rfl
  have c2 : W0.cell? ⟨R, 2, none⟩ = some (.int .i64 (at' : Int)) := by rw [h0.cell.cell]; rfl
  have f2 : W0.frozen? ⟨R, 2, none⟩ = false := h0.cell.frozen 2
  have hle := h.le
  have hsm := h.small
  obtain ⟨m, hm⟩ : ∃ m, m = at' + 32 := ⟨_, rfl⟩
  have hcap : bs.length ≤ c := by obtain ⟨_, _, e1, hc, _⟩ := h.bin; cases e1; exact hc
  have HW := hide (fun q => show RSt ((W0.drewN q).setCell ⟨R, 2, none⟩ (.int .i64 (m : Int))) R a c bs (at' + 32) 0 0 ∧ Fr (Xr R) W0 ((W0.drewN q).setCell ⟨R, 2, none⟩ (.int .i64 (m : Int))) from ⟨by rw [hm]; exact RSt_move (RSt_drawn h0 q) (at' + 32) hn, (Fr.drewN (Fr.refl (Xr R) W0) q).setCell R 2 _ (fun _ => rfl)⟩)
  have HO := hide (own_lt h.bin (by intro e; rw [e] at hn; simp at hn))
  obtain ⟨k, hk⟩ : ∃ k, k = bs.length := ⟨_, rfl⟩
  have HN := hide hn
  rw [← hk] at hle hsm hn c1 hcap
  have w1 : IntKind.i64.wrap (↑k - ↑at') = (k : Int) - (at' : Int) := IntWalk.i64_in _ (by omega)
  have w2 : IntKind.i64.wrap (↑at' + 32) = (m : Int) := by rw [IntWalk.i64_in _ (by omega)]; omega
  have w4 : (at' : Int) + 32 = (m : Int) := by omega
  have w3 : decide ((k : Int) - (at' : Int) < 32) = false := decide_eq_false (by omega)
  have hsl := slR a k c at' m 32 hm (by omega) hcap
  have HK := hide hk
  have HM := hide hm
  have HB0 := hide hB0
  have HA0 := hide hA0
  have E0 := hide e0
  have HZ := hide hzl
  clear h hk hm h0 hB0 hA0 e0 hzl
  go_enter Try.func136, Try.ntmps136
  go_upto_region 1 with fail
  rw [show w.alloc (.cells #[.int .u8 0, .int .u8 0, .int .u8 0, .int .u8 0, .int .u8 0, .int .u8 0, .int .u8 0, .int .u8 0, .int .u8 0, .int .u8 0, .int .u8 0, .int .u8 0, .int .u8 0, .int .u8 0, .int .u8 0, .int .u8 0, .int .u8 0, .int .u8 0, .int .u8 0, .int .u8 0, .int .u8 0, .int .u8 0, .int .u8 0, .int .u8 0, .int .u8 0, .int .u8 0, .int .u8 0, .int .u8 0, .int .u8 0, .int .u8 0, .int .u8 0, .int .u8 0] 34) = W0 from E0.out.symm]
  go_quiet (fail)
  go_upto_region 5 with fail
  obtain ⟨W5, e5⟩ : ∃ X, X = (W0.drewN nq).setCell ⟨R, 2, none⟩ (.int .i64 (m : Int)) := ⟨_, rfl⟩
  rw [← e5]
  have HW5 := HW.out nq
  rw [← e5] at HW5
  have c1' : W5.cell? ⟨R, 1, none⟩ = some (.slice a k c) := by rw [HW5.1.cell.cell, HK.out]; rfl
  have c2' : W5.cell? ⟨R, 2, none⟩ = some (.int .i64 (m : Int)) := by rw [HW5.1.cell.cell, HM.out]; rfl
  have HR5 := hide (RSt_drew HW5.1)
  have HF5 := hide (Fr.drew HW5.2)
  have HA5 := hide (At.fr HA0.out HF5.out (fun h => by have : w.heap.size = R := h; omega))
  clear e5 HW5 c1 c2 f2 w1 w2 w3 w4
  go_still_tail 11, (by kernel_rfl)
  refine sC (by kernel_rfl) (by kernel_rfl) (hash_any W5.drew (sa a c at') 32 (c - at') _ (bin_sub HR5.out.bin at' 32 HN.out) HZ.out) ?_
  intro w6 hb6
  simp only [Act.put, List.setIfInBounds_toArray, List.set_cons_succ, List.set_cons_zero]
  have HA6 := hide (HA5.out.below hb6 HA5.out.lt)
  have HR6 := hide (HR5.out.below hb6)
  have HF6 := hide (((Fr.of_below HB0.out).trans HF5.out).trans (Fr.of_below hb6))
  clear hb6
  refine stepStore (by rfl) _ _ _ (by rfl) _ (b8 ((bs.drop at').take 32)) (by kernel_rfl) (by kernel_rfl) HA6.out 32 (by kernel_rfl) (by rw [b8_len]; rfl) (by rw [b8_len]; exact HZ.out) (all_oneCell_toArray (one_b8 _)) ?_
  obtain ⟨WL, eWL⟩ : ∃ X, X = w6.setRow w.heap.size (b8 ((bs.drop at').take 32)).toArray := ⟨_, rfl⟩
  have HAL := hide (show At WL w.heap.size 34 (b8 ((bs.drop at').take 32)) by rw [eWL]; exact HA6.out.put _)
  have HFL := hide (show Fr (Xr R) w WL by rw [eWL]; exact Fr.setRow HF6.out _ _ (fun h => absurd h (Nat.lt_irrefl _)))
  have HRL := hide (show RSt WL R a c bs (at' + 32) 0 0 by rw [eWL]; exact RSt_row HR6.out _ _ (by omega) HO.out (Nat.le_refl _))
  have HLL := hide (show (b8 ((bs.drop at').take 32)).length = 32 by rw [b8_len]; exact HZ.out)
  rw [← eWL]
  clear eWL
  go_wp2_with fail
  exact bodyPost_ret (retRow HAL.out Try.results136 _ (by rfl) (.array 32 5) 32 Try.underlying34 rfl (by kernel_rfl) HLL.out) rfl ⟨rfl, HRL.out, HFL.out⟩
set_option maxHeartbeats 1000000 in
theorem take_short_key (w : World) (R : Nat) (a : Option Addr) (c : Nat) (bs : List Int) (at' : Nat) (fv : Value) (h : RSt w R a c bs at' 0 0) (hs : bs.length < at' + 4) :
    Calls Try.prog 140 #[.pointer (some ⟨R, 0, none⟩), .int .i64 4, fv] w (Bad w R a c bs 6) := by
  obtain ⟨W0, e0⟩ : ∃ X, X = w.alloc (.cells (b8 (zz 4)).toArray 36) := ⟨_, rfl⟩
  have hB0 : Below w.heap.size w W0 := by rw [e0]; exact Below.alloc (Below.refl _ _) (Nat.le_refl _) _
  have h0 := h.below hB0
  have c1 : W0.cell? ⟨R, 1, none⟩ = some (.slice a bs.length c) := by rw [h0.cell.cell]; rfl
  have c2 : W0.cell? ⟨R, 2, none⟩ = some (.int .i64 (at' : Int)) := by rw [h0.cell.cell]; rfl
  have hle := h.le
  have hsm := h.small
  have HR := hide (fun q => RSt_drawn h0 q)
  have HB0 := hide hB0
  have E0 := hide e0
  obtain ⟨k, hk⟩ : ∃ k, k = bs.length := ⟨_, rfl⟩
  rw [← hk] at hle hsm hs c1
  have w1 : IntKind.i64.wrap (↑k - ↑at') = (k : Int) - (at' : Int) := IntWalk.i64_in _ (by omega)
  have w3 : decide ((k : Int) - (at' : Int) < 4) = true := decide_eq_true (by omega)
  clear h hk h0 hB0 e0
  go_enter Try.func140, Try.ntmps140
  go_upto_region 1 with fail
  rw [show w.alloc (.cells #[.int .u8 0, .int .u8 0, .int .u8 0, .int .u8 0] 36) = W0 from E0.out.symm]
  go_quiet (fail)
  go_wp2_with fail
  exact ⟨rfl, rfl, ⟨at', HR.out _⟩, Fr.drewN (Fr.of_below HB0.out) _⟩
set_option maxRecDepth 8000 in
set_option maxHeartbeats 1000000 in
theorem take_key (w : World) (R : Nat) (a : Option Addr) (c : Nat) (bs : List Int) (at' : Nat) (h : RSt w R a c bs at' 0 0) (hn : at' + 4 ≤ bs.length) :
    Calls Try.prog 140 #[.pointer (some ⟨R, 0, none⟩), .int .i64 4, .func (.func 141) #[] #[]] w (Got w R a c bs (.agg (b8 ((bs.drop at').take 4)).toArray) (at' + 4)) := by
  have hlt := h.lt
  have hzl : ((bs.drop at').take 4).length = 4 := by simp; omega
  obtain ⟨W0, e0⟩ : ∃ X, X = w.alloc (.cells (b8 (zz 4)).toArray 36) := ⟨_, rfl⟩
  have hB0 : Below w.heap.size w W0 := by rw [e0]; exact Below.alloc (Below.refl _ _) (Nat.le_refl _) _
  have hA0 : At W0 w.heap.size 36 (b8 (zz 4)) := by rw [e0]; exact At.new _ _ _
  have h0 := h.below hB0
  have c1 : W0.cell? ⟨R, 1, none⟩ = some (.slice a bs.length c) := by rw [h0.cell.cell]; rfl
  have c2 : W0.cell? ⟨R, 2, none⟩ = some (.int .i64 (at' : Int)) := by rw [h0.cell.cell]; rfl
  have f2 : W0.frozen? ⟨R, 2, none⟩ = false := h0.cell.frozen 2
  have hle := h.le
  have hsm := h.small
  obtain ⟨m, hm⟩ : ∃ m, m = at' + 4 := ⟨_, rfl⟩
  have hcap : bs.length ≤ c := by obtain ⟨_, _, e1, hc, _⟩ := h.bin; cases e1; exact hc
  have HW := hide (fun q => show RSt ((W0.drewN q).setCell ⟨R, 2, none⟩ (.int .i64 (m : Int))) R a c bs (at' + 4) 0 0 ∧ Fr (Xr R) W0 ((W0.drewN q).setCell ⟨R, 2, none⟩ (.int .i64 (m : Int))) from ⟨by rw [hm]; exact RSt_move (RSt_drawn h0 q) (at' + 4) hn, (Fr.drewN (Fr.refl (Xr R) W0) q).setCell R 2 _ (fun _ => rfl)⟩)
  have HO := hide (own_lt h.bin (by intro e; rw [e] at hn; simp at hn))
  obtain ⟨k, hk⟩ : ∃ k, k = bs.length := ⟨_, rfl⟩
  have HN := hide hn
  rw [← hk] at hle hsm hn c1 hcap
  have w1 : IntKind.i64.wrap (↑k - ↑at') = (k : Int) - (at' : Int) := IntWalk.i64_in _ (by omega)
  have w2 : IntKind.i64.wrap (↑at' + 4) = (m : Int) := by rw [IntWalk.i64_in _ (by omega)]; omega
  have w4 : (at' : Int) + 4 = (m : Int) := by omega
  have w3 : decide ((k : Int) - (at' : Int) < 4) = false := decide_eq_false (by omega)
  have hsl := slR a k c at' m 4 hm (by omega) hcap
  have HK := hide hk
  have HM := hide hm
  have HB0 := hide hB0
  have HA0 := hide hA0
  have E0 := hide e0
  have HZ := hide hzl
  clear h hk hm h0 hB0 hA0 e0 hzl
  go_enter Try.func140, Try.ntmps140
  go_upto_region 1 with fail
  rw [show w.alloc (.cells #[.int .u8 0, .int .u8 0, .int .u8 0, .int .u8 0] 36) = W0 from E0.out.symm]
  go_quiet (fail)
  go_upto_region 5 with fail
  obtain ⟨W5, e5⟩ : ∃ X, X = (W0.drewN nq).setCell ⟨R, 2, none⟩ (.int .i64 (m : Int)) := ⟨_, rfl⟩
  rw [← e5]
  have HW5 := HW.out nq
  rw [← e5] at HW5
  have c1' : W5.cell? ⟨R, 1, none⟩ = some (.slice a k c) := by rw [HW5.1.cell.cell, HK.out]; rfl
  have c2' : W5.cell? ⟨R, 2, none⟩ = some (.int .i64 (m : Int)) := by rw [HW5.1.cell.cell, HM.out]; rfl
  have HR5 := hide (RSt_drew HW5.1)
  have HF5 := hide (Fr.drew HW5.2)
  have HA5 := hide (At.fr HA0.out HF5.out (fun h => by have : w.heap.size = R := h; omega))
  clear e5 HW5 c1 c2 f2 w1 w2 w3 w4
  go_still_tail 11, (by kernel_rfl)
  refine sC (by kernel_rfl) (by kernel_rfl) (key_any W5.drew (sa a c at') 4 (c - at') _ (bin_sub HR5.out.bin at' 4 HN.out) HZ.out) ?_
  intro w6 hb6
  simp only [Act.put, List.setIfInBounds_toArray, List.set_cons_succ, List.set_cons_zero]
  have HA6 := hide (HA5.out.below hb6 HA5.out.lt)
  have HR6 := hide (HR5.out.below hb6)
  have HF6 := hide (((Fr.of_below HB0.out).trans HF5.out).trans (Fr.of_below hb6))
  clear hb6
  refine stepStore (by rfl) _ _ _ (by rfl) _ (b8 ((bs.drop at').take 4)) (by kernel_rfl) (by kernel_rfl) HA6.out 4 (by kernel_rfl) (by rw [b8_len]; rfl) (by rw [b8_len]; exact HZ.out) (all_oneCell_toArray (one_b8 _)) ?_
  obtain ⟨WL, eWL⟩ : ∃ X, X = w6.setRow w.heap.size (b8 ((bs.drop at').take 4)).toArray := ⟨_, rfl⟩
  have HAL := hide (show At WL w.heap.size 36 (b8 ((bs.drop at').take 4)) by rw [eWL]; exact HA6.out.put _)
  have HFL := hide (show Fr (Xr R) w WL by rw [eWL]; exact Fr.setRow HF6.out _ _ (fun h => absurd h (Nat.lt_irrefl _)))
  have HRL := hide (show RSt WL R a c bs (at' + 4) 0 0 by rw [eWL]; exact RSt_row HR6.out _ _ (by omega) HO.out (Nat.le_refl _))
  have HLL := hide (show (b8 ((bs.drop at').take 4)).length = 4 by rw [b8_len]; exact HZ.out)
  rw [← eWL]
  clear eWL
  go_wp2_with fail
  exact bodyPost_ret (retRow HAL.out Try.results140 _ (by rfl) (.array 4 5) 4 Try.underlying36 rfl (by kernel_rfl) HLL.out) rfl ⟨rfl, HRL.out, HFL.out⟩
end WirO
end Go.Proofs.Ythcemghamdmjmaa

namespace Go.Proofs.Ythcemghamdmjmaa
namespace WirP
open Go.RowKit
open BlkM WirM WirS WirA WirB WirE WirF WirG WirH WirI WirJ WirK WirL WirN WirO

def aggB (l : List Int) : Value := .agg (b8 l).toArray
/-- The world behind a box and a row of zeros. -/
def WZ (w : World) (p : Value) (T : TypeId) (n : Nat) : World := (w.alloc (.cells #[p] 48)).alloc (.cells (b8 (zz n)).toArray T)
theorem WZ_below (w : World) (p : Value) (T : TypeId) (n : Nat) : Below w.heap.size w (WZ w p T n) := Below.alloc (Below.alloc (Below.refl _ _) (Nat.le_refl _) _) (by simp) _
theorem WZ_at1 (w : World) (p : Value) (T : TypeId) (n : Nat) : At (WZ w p T n) w.heap.size 48 [p] := At.alloc (At.new w _ [_]) _
theorem WZ_at2 (w : World) (p : Value) (T : TypeId) (n : Nat) : At (WZ w p T n) (w.heap.size + 1) T (b8 (zz n)) := by
  have := At.new (w.alloc (.cells #[p] 48)) T (b8 (zz n))
  rw [World.size_alloc] at this
  exact this
theorem WZ_size (w : World) (p : Value) (T : TypeId) (n : Nat) : (WZ w p T n).heap.size = w.heap.size + 2 := by unfold WZ; simp
theorem zz_len (n : Nat) : (b8 (zz n)).length = n := by rw [b8_len]; simp [zz]
theorem hashC (w : World) (R : Nat) (a : Option Addr) (c : Nat) (bs : List Int) (at' b : Nat) (h : RSt w R a c bs at' 0 0) (hb : w.cell? ⟨b, 0, none⟩ = some (.pointer (some ⟨R, 0, none⟩))) :
    Calls Try.prog 135 #[.pointer (some ⟨b, 0, none⟩)] w (ElemPost w R a c bs (outOf aggB (rowO 32 bs at'))) := by
  obtain ⟨W0, e0⟩ : ∃ X, X = w.alloc (.cells (b8 (zz 32)).toArray 34) := ⟨_, rfl⟩
  have hB0 : Below w.heap.size w W0 := by rw [e0]; exact Below.alloc (Below.refl _ _) (Nat.le_refl _) _
  have hA0 : At W0 w.heap.size 34 (b8 (zz 32)) := by rw [e0]; exact At.new _ _ _
  have h0 := h.below hB0
  have hlt := h.lt
  have hblt : b < w.heap.size := World.block_lt_of_cell? w ⟨b, 0, none⟩ hb
  have hb0 : W0.cell? ⟨b, 0, none⟩ = some (.pointer (some ⟨R, 0, none⟩)) := (hB0.cell (p := ⟨b, 0, none⟩) hblt).trans hb
  have HB0 := hide hB0
  have HA0 := hide hA0
  have E0 := hide e0
  by_cases h1 : bs.length < at' + 32
  · have H := hide (take_short_hash W0 R a c bs at' (.func (.func 137) #[] #[]) h0 h1)
    rw [show rowO 32 bs at' = .inl 6 by unfold rowO; rw [if_pos h1]]
    clear h h1 e0 hB0 hA0 h0 hb
    go_enter Try.func135, Try.ntmps135
    go_upto_region 1 with fail
    rw [show w.alloc (.cells #[.int .u8 0, .int .u8 0, .int .u8 0, .int .u8 0, .int .u8 0, .int .u8 0, .int .u8 0, .int .u8 0, .int .u8 0, .int .u8 0, .int .u8 0, .int .u8 0, .int .u8 0, .int .u8 0, .int .u8 0, .int .u8 0, .int .u8 0, .int .u8 0, .int .u8 0, .int .u8 0, .int .u8 0, .int .u8 0, .int .u8 0, .int .u8 0, .int .u8 0, .int .u8 0, .int .u8 0, .int .u8 0, .int .u8 0, .int .u8 0, .int .u8 0, .int .u8 0] 34) = W0 from E0.out.symm]
    go_wp2_with ((go_at_call 136; refine (H.out).mono ?_; rintro e w1 ⟨rfl, h2, h3⟩))
    exact ⟨rfl, rfl, h2, (Fr.of_below HB0.out).trans h3⟩
  · have H := hide (take_hash W0 R a c bs at' h0 (by omega))
    have HO := hide (own_lt h.bin (by intro e; rw [e] at h1; simp at h1))
    have HZ := hide (show (b8 ((bs.drop at').take 32)).length = 32 by rw [b8_len]; simp; omega)
    rw [show rowO 32 bs at' = .inr ((bs.drop at').take 32, at' + 32) by unfold rowO; rw [if_neg h1]]
    generalize (bs.drop at').take 32 = l at H HZ ⊢
    clear h h1 e0 hB0 hA0 h0 hb
    go_enter Try.func135, Try.ntmps135
    go_upto_region 1 with fail
    rw [show w.alloc (.cells #[.int .u8 0, .int .u8 0, .int .u8 0, .int .u8 0, .int .u8 0, .int .u8 0, .int .u8 0, .int .u8 0, .int .u8 0, .int .u8 0, .int .u8 0, .int .u8 0, .int .u8 0, .int .u8 0, .int .u8 0, .int .u8 0, .int .u8 0, .int .u8 0, .int .u8 0, .int .u8 0, .int .u8 0, .int .u8 0, .int .u8 0, .int .u8 0, .int .u8 0, .int .u8 0, .int .u8 0, .int .u8 0, .int .u8 0, .int .u8 0, .int .u8 0, .int .u8 0] 34) = W0 from E0.out.symm]
    refine wp_region_lit ?_
    refine sP (by kernel_rfl) _ _ (by rfl) ⟨b, 0, none⟩ (by kernel_rfl) (.pointer (some ⟨R, 0, none⟩)) hb0 (by kernel_rfl) ?_
    simp only [Act.put, List.setIfInBounds_toArray, List.set_cons_succ, List.set_cons_zero]
    refine sC (R := fun w' => RSt w' R a c bs (at' + 32) 0 0 ∧ Fr (Xr R) W0 w') (by kernel_rfl) (by kernel_rfl) H.out ?_
    rintro w6 ⟨hr, hf⟩
    simp only [Act.put, List.setIfInBounds_toArray, List.set_cons_succ, List.set_cons_zero]
    have HA6 := hide (At.fr HA0.out hf (fun h => by have : w.heap.size = R := h; omega))
    have HR6 := hide hr
    have HF6 := hide ((Fr.of_below HB0.out).trans hf)
    clear hr hf
    refine stepStore (by rfl) _ _ _ (by rfl) _ (b8 l) (by kernel_rfl) (by kernel_rfl) HA6.out 32 (by kernel_rfl) (zz_len _) HZ.out (all_oneCell_toArray (one_b8 _)) ?_
    obtain ⟨WL, eWL⟩ : ∃ X, X = w6.setRow w.heap.size (b8 l).toArray := ⟨_, rfl⟩
    have HAL := hide (show At WL w.heap.size 34 (b8 l) by rw [eWL]; exact HA6.out.put _)
    have HFL := hide (show Fr (Xr R) w WL by rw [eWL]; exact Fr.setRow HF6.out _ _ (fun h => absurd h (Nat.lt_irrefl _)))
    have HRL := hide (show RSt WL R a c bs (at' + 32) 0 0 by rw [eWL]; exact RSt_row HR6.out _ _ (by omega) HO.out (Nat.le_refl _))
    rw [← eWL]
    clear eWL
    go_wp2_with fail
    exact bodyPost_ret (retRow HAL.out Try.results135 _ (by rfl) (.array 32 5) 32 Try.underlying34 rfl (by kernel_rfl) HZ.out) rfl ⟨_, rfl, rfl, HRL.out, HFL.out⟩
theorem idle_hash (p q : Addr) (w : World) :
    CallsD Try.prog 208 #[.pointer (some p), .pointer (some q)] .returning w fun e u' w' => e = .returned (.tuple #[]) ∧ u' = .returning ∧ w' = w := by
  refine callsD_of_wpS Try.func208 rfl fun c₀ cs hu => ?_
  apply wpS_seq
  apply wpS_region
  simp [wpOpsS, go_sem, recoverD, hu, Try.ntmps208, Exit.thenS]
  refine wpS_of_wp ?_
  go_wp2
  cases c₀
  simp_all [bodyPostS, results, Try.results208]
set_option maxRecDepth 8000 in
set_option maxHeartbeats 1000000 in
theorem catch_hash (p q : Nat) (w : World) (R : Nat) (a : Option Addr) (c : Nat) (bs : List Int) (at' : Nat) (fe fa code fr : Int) (h : RSt w R a c bs at' fe fa)
    (hp0 : w.cell? ⟨p, 0, none⟩ = some (.pointer (some ⟨R, 0, none⟩))) (hq0 : w.cell? ⟨q, 0, none⟩ = some (.int .i64 fr)) :
    CallsD Try.prog 208 #[.pointer (some ⟨p, 0, none⟩), .pointer (some ⟨q, 0, none⟩)] (.panicking (hp code)) w fun e u' w' => e = .returned (.tuple #[]) ∧ u' = .panicking (hp2 code) ∧ RSt w' R a c bs at' code fr ∧ Fr (Xr R) w w' := by
  have H := hide (halted_any w R a c bs at' fe fa code fr h)
  clear h
  refine callsD_of_wpS Try.func208 rfl fun c₀ cs hu => ?_
  apply wpS_seq
  apply wpS_region
  simp [wpOpsS, go_sem, recoverD, hu, hp, Try.ntmps208, Exit.thenS]
  refine wpS_of_wp ?_
  go_wp2_with ((go_at_call 201; refine (H.out).mono ?_; rintro e w1 ⟨rfl, h2⟩; have HH := hide h2; clear h2))
  exact ⟨rfl, _, rfl, _, by simp [results, Try.results208], rfl, rfl, HH.out⟩
/-- Where nothing is read: a row of zeros is handed back. -/
theorem idleread_hash (w : World) (p : Option Addr) (fv : Value) (h : ∀ W, Below w.heap.size w W → Calls Try.prog 123 #[.pointer p] W fun e w' => e = .returned (.bool false) ∧ W = w') : Calls Try.prog 134 #[.pointer p, fv] w fun e w' => e = .returned (aggB (zz 32)) ∧ Below w.heap.size w w' := by
  obtain ⟨W0, e0⟩ : ∃ X, X = WZ w (.pointer p) 34 32 := ⟨_, rfl⟩
  have HB0 := hide (show Below w.heap.size w W0 by rw [e0]; exact WZ_below _ _ _ _)
  have HA0 := hide (show At W0 (w.heap.size + 1) 34 (b8 (zz 32)) by rw [e0]; exact WZ_at2 _ _ _ _)
  have hc : W0.cell? ⟨w.heap.size, 0, none⟩ = some (.pointer p) := by rw [e0]; exact (WZ_at1 _ _ _ _).cell 0
  have H := hide (h W0 HB0.out)
  have E0 := hide e0
  clear h e0
  have hmf : ∀ (fn : Fn) (first cap : Array Value) (w : World), (Instr.makeFunc fn first cap).run Try.prog w = .ok (.func fn first cap) w := fun _ _ _ _ => rfl
  go_enter_defers Try.func134, Try.ntmps134
  go_upto_region 1 with fail
  rw [show (w.alloc (.cells #[.pointer p] 48)).alloc (.cells #[.int .u8 0, .int .u8 0, .int .u8 0, .int .u8 0, .int .u8 0, .int .u8 0, .int .u8 0, .int .u8 0, .int .u8 0, .int .u8 0, .int .u8 0, .int .u8 0, .int .u8 0, .int .u8 0, .int .u8 0, .int .u8 0, .int .u8 0, .int .u8 0, .int .u8 0, .int .u8 0, .int .u8 0, .int .u8 0, .int .u8 0, .int .u8 0, .int .u8 0, .int .u8 0, .int .u8 0, .int .u8 0, .int .u8 0, .int .u8 0, .int .u8 0, .int .u8 0] 34) = W0 from E0.out.symm]
  go_upto_region 2 with ((go_at_call 123; refine (H.out).mono ?_; rintro e w1 ⟨rfl, rfl⟩))
  refine wp_region_lit ?_
  refine sL (by kernel_rfl) _ _ (by rfl) _ (by kernel_rfl) HA0.out _ 32 Try.underlying34 rfl (by kernel_rfl) (zz_len _) ?_
  simp only [Act.put, List.setIfInBounds_toArray, List.set_cons_succ, List.set_cons_zero]
  refine stepStore (by rfl) _ _ _ (by rfl) _ (b8 (zz 32)) (by kernel_rfl) (by kernel_rfl) HA0.out 32 (by kernel_rfl) (zz_len _) (zz_len _) (all_oneCell_toArray (one_b8 _)) ?_
  obtain ⟨WL, eWL⟩ : ∃ X, X = W0.setRow (w.heap.size + 1) (b8 (zz 32)).toArray := ⟨_, rfl⟩
  have HAL := hide (show At WL (w.heap.size + 1) 34 (b8 (zz 32)) by rw [eWL]; exact HA0.out.put _)
  have HBL := hide (show Below w.heap.size w WL by rw [eWL]; exact Below.setRowOwn HB0.out (by omega) _)
  rw [← eWL]
  clear eWL
  go_wp2_with fail
  exact ⟨_, retRow HAL.out Try.results134 _ (by rfl) (.array 32 5) 32 Try.underlying34 rfl (by kernel_rfl) (zz_len _), rfl, HBL.out⟩
theorem read_none_hash (w : World) (p : Option Addr) (fv : Value) (h : NoR w p) (hp : ∀ S, p = some ⟨S, 0, none⟩ → S < w.heap.size) : Calls Try.prog 134 #[.pointer p, fv] w fun e w' => e = .returned (aggB (zz 32)) ∧ Below w.heap.size w w' :=
  idleread_hash w p fv (fun W hb => reads_none W p (by
    rcases h with rfl | ⟨S, rfl, hc⟩
    · exact .inl rfl
    · exact .inr ⟨S, rfl, (hb.cell (hp S rfl)).trans hc⟩))
theorem read_fault_hash (w : World) (R : Nat) (a : Option Addr) (c : Nat) (bs : List Int) (at' : Nat) (fe fa : Int) (fv : Value) (h : RSt w R a c bs at' fe fa) (he : fe ≠ 0) : Calls Try.prog 134 #[.pointer (some ⟨R, 0, none⟩), fv] w fun e w' => e = .returned (aggB (zz 32)) ∧ Below w.heap.size w w' :=
  idleread_hash w _ fv (fun W hb => by
    have := reads_any W R a c bs at' fe fa (h.below hb)
    rwa [show (fe == 0) = false by simpa using he] at this)
theorem keyC (w : World) (R : Nat) (a : Option Addr) (c : Nat) (bs : List Int) (at' b : Nat) (h : RSt w R a c bs at' 0 0) (hb : w.cell? ⟨b, 0, none⟩ = some (.pointer (some ⟨R, 0, none⟩))) :
    Calls Try.prog 139 #[.pointer (some ⟨b, 0, none⟩)] w (ElemPost w R a c bs (outOf aggB (rowO 4 bs at'))) := by
  obtain ⟨W0, e0⟩ : ∃ X, X = w.alloc (.cells (b8 (zz 4)).toArray 36) := ⟨_, rfl⟩
  have hB0 : Below w.heap.size w W0 := by rw [e0]; exact Below.alloc (Below.refl _ _) (Nat.le_refl _) _
  have hA0 : At W0 w.heap.size 36 (b8 (zz 4)) := by rw [e0]; exact At.new _ _ _
  have h0 := h.below hB0
  have hlt := h.lt
  have hblt : b < w.heap.size := World.block_lt_of_cell? w ⟨b, 0, none⟩ hb
  have hb0 : W0.cell? ⟨b, 0, none⟩ = some (.pointer (some ⟨R, 0, none⟩)) := (hB0.cell (p := ⟨b, 0, none⟩) hblt).trans hb
  have HB0 := hide hB0
  have HA0 := hide hA0
  have E0 := hide e0
  by_cases h1 : bs.length < at' + 4
  · have H := hide (take_short_key W0 R a c bs at' (.func (.func 141) #[] #[]) h0 h1)
    rw [show rowO 4 bs at' = .inl 6 by unfold rowO; rw [if_pos h1]]
    clear h h1 e0 hB0 hA0 h0 hb
    go_enter Try.func139, Try.ntmps139
    go_upto_region 1 with fail
    rw [show w.alloc (.cells #[.int .u8 0, .int .u8 0, .int .u8 0, .int .u8 0] 36) = W0 from E0.out.symm]
    go_wp2_with ((go_at_call 140; refine (H.out).mono ?_; rintro e w1 ⟨rfl, h2, h3⟩))
    exact ⟨rfl, rfl, h2, (Fr.of_below HB0.out).trans h3⟩
  · have H := hide (take_key W0 R a c bs at' h0 (by omega))
    have HO := hide (own_lt h.bin (by intro e; rw [e] at h1; simp at h1))
    have HZ := hide (show (b8 ((bs.drop at').take 4)).length = 4 by rw [b8_len]; simp; omega)
    rw [show rowO 4 bs at' = .inr ((bs.drop at').take 4, at' + 4) by unfold rowO; rw [if_neg h1]]
    generalize (bs.drop at').take 4 = l at H HZ ⊢
    clear h h1 e0 hB0 hA0 h0 hb
    go_enter Try.func139, Try.ntmps139
    go_upto_region 1 with fail
    rw [show w.alloc (.cells #[.int .u8 0, .int .u8 0, .int .u8 0, .int .u8 0] 36) = W0 from E0.out.symm]
    refine wp_region_lit ?_
    refine sP (by kernel_rfl) _ _ (by rfl) ⟨b, 0, none⟩ (by kernel_rfl) (.pointer (some ⟨R, 0, none⟩)) hb0 (by kernel_rfl) ?_
    simp only [Act.put, List.setIfInBounds_toArray, List.set_cons_succ, List.set_cons_zero]
    refine sC (R := fun w' => RSt w' R a c bs (at' + 4) 0 0 ∧ Fr (Xr R) W0 w') (by kernel_rfl) (by kernel_rfl) H.out ?_
    rintro w6 ⟨hr, hf⟩
    simp only [Act.put, List.setIfInBounds_toArray, List.set_cons_succ, List.set_cons_zero]
    have HA6 := hide (At.fr HA0.out hf (fun h => by have : w.heap.size = R := h; omega))
    have HR6 := hide hr
    have HF6 := hide ((Fr.of_below HB0.out).trans hf)
    clear hr hf
    refine stepStore (by rfl) _ _ _ (by rfl) _ (b8 l) (by kernel_rfl) (by kernel_rfl) HA6.out 4 (by kernel_rfl) (zz_len _) HZ.out (all_oneCell_toArray (one_b8 _)) ?_
    obtain ⟨WL, eWL⟩ : ∃ X, X = w6.setRow w.heap.size (b8 l).toArray := ⟨_, rfl⟩
    have HAL := hide (show At WL w.heap.size 36 (b8 l) by rw [eWL]; exact HA6.out.put _)
    have HFL := hide (show Fr (Xr R) w WL by rw [eWL]; exact Fr.setRow HF6.out _ _ (fun h => absurd h (Nat.lt_irrefl _)))
    have HRL := hide (show RSt WL R a c bs (at' + 4) 0 0 by rw [eWL]; exact RSt_row HR6.out _ _ (by omega) HO.out (Nat.le_refl _))
    rw [← eWL]
    clear eWL
    go_wp2_with fail
    exact bodyPost_ret (retRow HAL.out Try.results139 _ (by rfl) (.array 4 5) 4 Try.underlying36 rfl (by kernel_rfl) HZ.out) rfl ⟨_, rfl, rfl, HRL.out, HFL.out⟩
theorem idle_key (p q : Addr) (w : World) :
    CallsD Try.prog 209 #[.pointer (some p), .pointer (some q)] .returning w fun e u' w' => e = .returned (.tuple #[]) ∧ u' = .returning ∧ w' = w := by
  refine callsD_of_wpS Try.func209 rfl fun c₀ cs hu => ?_
  apply wpS_seq
  apply wpS_region
  simp [wpOpsS, go_sem, recoverD, hu, Try.ntmps209, Exit.thenS]
  refine wpS_of_wp ?_
  go_wp2
  cases c₀
  simp_all [bodyPostS, results, Try.results209]
set_option maxRecDepth 8000 in
set_option maxHeartbeats 1000000 in
theorem catch_key (p q : Nat) (w : World) (R : Nat) (a : Option Addr) (c : Nat) (bs : List Int) (at' : Nat) (fe fa code fr : Int) (h : RSt w R a c bs at' fe fa)
    (hp0 : w.cell? ⟨p, 0, none⟩ = some (.pointer (some ⟨R, 0, none⟩))) (hq0 : w.cell? ⟨q, 0, none⟩ = some (.int .i64 fr)) :
    CallsD Try.prog 209 #[.pointer (some ⟨p, 0, none⟩), .pointer (some ⟨q, 0, none⟩)] (.panicking (hp code)) w fun e u' w' => e = .returned (.tuple #[]) ∧ u' = .panicking (hp2 code) ∧ RSt w' R a c bs at' code fr ∧ Fr (Xr R) w w' := by
  have H := hide (halted_any w R a c bs at' fe fa code fr h)
  clear h
  refine callsD_of_wpS Try.func209 rfl fun c₀ cs hu => ?_
  apply wpS_seq
  apply wpS_region
  simp [wpOpsS, go_sem, recoverD, hu, hp, Try.ntmps209, Exit.thenS]
  refine wpS_of_wp ?_
  go_wp2_with ((go_at_call 201; refine (H.out).mono ?_; rintro e w1 ⟨rfl, h2⟩; have HH := hide h2; clear h2))
  exact ⟨rfl, _, rfl, _, by simp [results, Try.results209], rfl, rfl, HH.out⟩
/-- Where nothing is read: a row of zeros is handed back. -/
theorem idleread_key (w : World) (p : Option Addr) (fv : Value) (h : ∀ W, Below w.heap.size w W → Calls Try.prog 123 #[.pointer p] W fun e w' => e = .returned (.bool false) ∧ W = w') : Calls Try.prog 138 #[.pointer p, fv] w fun e w' => e = .returned (aggB (zz 4)) ∧ Below w.heap.size w w' := by
  obtain ⟨W0, e0⟩ : ∃ X, X = WZ w (.pointer p) 36 4 := ⟨_, rfl⟩
  have HB0 := hide (show Below w.heap.size w W0 by rw [e0]; exact WZ_below _ _ _ _)
  have HA0 := hide (show At W0 (w.heap.size + 1) 36 (b8 (zz 4)) by rw [e0]; exact WZ_at2 _ _ _ _)
  have hc : W0.cell? ⟨w.heap.size, 0, none⟩ = some (.pointer p) := by rw [e0]; exact (WZ_at1 _ _ _ _).cell 0
  have H := hide (h W0 HB0.out)
  have E0 := hide e0
  clear h e0
  have hmf : ∀ (fn : Fn) (first cap : Array Value) (w : World), (Instr.makeFunc fn first cap).run Try.prog w = .ok (.func fn first cap) w := fun _ _ _ _ => rfl
  go_enter_defers Try.func138, Try.ntmps138
  go_upto_region 1 with fail
  rw [show (w.alloc (.cells #[.pointer p] 48)).alloc (.cells #[.int .u8 0, .int .u8 0, .int .u8 0, .int .u8 0] 36) = W0 from E0.out.symm]
  go_upto_region 2 with ((go_at_call 123; refine (H.out).mono ?_; rintro e w1 ⟨rfl, rfl⟩))
  refine wp_region_lit ?_
  refine sL (by kernel_rfl) _ _ (by rfl) _ (by kernel_rfl) HA0.out _ 4 Try.underlying36 rfl (by kernel_rfl) (zz_len _) ?_
  simp only [Act.put, List.setIfInBounds_toArray, List.set_cons_succ, List.set_cons_zero]
  refine stepStore (by rfl) _ _ _ (by rfl) _ (b8 (zz 4)) (by kernel_rfl) (by kernel_rfl) HA0.out 4 (by kernel_rfl) (zz_len _) (zz_len _) (all_oneCell_toArray (one_b8 _)) ?_
  obtain ⟨WL, eWL⟩ : ∃ X, X = W0.setRow (w.heap.size + 1) (b8 (zz 4)).toArray := ⟨_, rfl⟩
  have HAL := hide (show At WL (w.heap.size + 1) 36 (b8 (zz 4)) by rw [eWL]; exact HA0.out.put _)
  have HBL := hide (show Below w.heap.size w WL by rw [eWL]; exact Below.setRowOwn HB0.out (by omega) _)
  rw [← eWL]
  clear eWL
  go_wp2_with fail
  exact ⟨_, retRow HAL.out Try.results138 _ (by rfl) (.array 4 5) 4 Try.underlying36 rfl (by kernel_rfl) (zz_len _), rfl, HBL.out⟩
theorem read_none_key (w : World) (p : Option Addr) (fv : Value) (h : NoR w p) (hp : ∀ S, p = some ⟨S, 0, none⟩ → S < w.heap.size) : Calls Try.prog 138 #[.pointer p, fv] w fun e w' => e = .returned (aggB (zz 4)) ∧ Below w.heap.size w w' :=
  idleread_key w p fv (fun W hb => reads_none W p (by
    rcases h with rfl | ⟨S, rfl, hc⟩
    · exact .inl rfl
    · exact .inr ⟨S, rfl, (hb.cell (hp S rfl)).trans hc⟩))
theorem read_fault_key (w : World) (R : Nat) (a : Option Addr) (c : Nat) (bs : List Int) (at' : Nat) (fe fa : Int) (fv : Value) (h : RSt w R a c bs at' fe fa) (he : fe ≠ 0) : Calls Try.prog 138 #[.pointer (some ⟨R, 0, none⟩), fv] w fun e w' => e = .returned (aggB (zz 4)) ∧ Below w.heap.size w w' :=
  idleread_key w _ fv (fun W hb => by
    have := reads_any W R a c bs at' fe fa (h.below hb)
    rwa [show (fe == 0) = false by simpa using he] at this)
end WirP
end Go.Proofs.Ythcemghamdmjmaa

namespace Go.Proofs.Ythcemghamdmjmaa
namespace WirQ
open Go.RowKit
open BlkM WirM WirS WirA WirB WirE WirF WirG WirH WirI WirJ WirK WirL WirN WirO WirP

set_option maxRecDepth 8000 in
set_option maxHeartbeats 1000000 in
theorem read_hash (w : World) (R : Nat) (a : Option Addr) (c : Nat) (bs : List Int) (at' b : Nat) (h : RSt w R a c bs at' 0 0) (hb : w.cell? ⟨b, 0, none⟩ = some (.pointer (some ⟨R, 0, none⟩))) :
    Calls Try.prog 134 #[.pointer (some ⟨R, 0, none⟩), .func (.func 135) #[] #[.pointer (some ⟨b, 0, none⟩)]] w (ReadPost w R a c bs at' (aggB (zz 32)) (outOf aggB (rowO 32 bs at'))) := by
  have hlt := h.lt
  have hblt : b < w.heap.size := World.block_lt_of_cell? w ⟨b, 0, none⟩ hb
  obtain ⟨W0, e0⟩ : ∃ X, X = WZ w (.pointer (some ⟨R, 0, none⟩)) 34 32 := ⟨_, rfl⟩
  have hB0 : Below w.heap.size w W0 := by rw [e0]; exact WZ_below _ _ _ _
  have hs0 : W0.heap.size = w.heap.size + 2 := by rw [e0]; exact WZ_size _ _ _ _
  have hA1 : At W0 w.heap.size 48 [.pointer (some ⟨R, 0, none⟩)] := by rw [e0]; exact WZ_at1 _ _ _ _
  have hA2 : At W0 (w.heap.size + 1) 34 (b8 (zz 32)) := by rw [e0]; exact WZ_at2 _ _ _ _
  have h0 := h.below hB0
  have H := hide (reads_any W0 R a c bs at' 0 0 h0)
  have c2 : W0.cell? ⟨R, 2, none⟩ = some (.int .i64 (at' : Int)) := by rw [h0.cell.cell]; rfl
  have hc : W0.cell? ⟨w.heap.size, 0, none⟩ = some (.pointer (some ⟨R, 0, none⟩)) := hA1.cell 0
  obtain ⟨W4, e4⟩ : ∃ X, X = W0.alloc (.cells #[.int .i64 (at' : Int)] 3) := ⟨_, rfl⟩
  have hB4' : Below W0.heap.size W0 W4 := by rw [e4]; exact Below.alloc (Below.refl _ _) (Nat.le_refl _) _
  have hB4 : Below w.heap.size w W4 := hB0.trans (hB4'.mono hB0.size)
  have hA3 : At W4 W0.heap.size 3 [.int .i64 (at' : Int)] := by rw [e4]; exact At.new W0 _ [_]
  have hmf : ∀ (fn : Fn) (first cap : Array Value) (w : World), (Instr.makeFunc fn first cap).run Try.prog w = .ok (.func fn first cap) w := fun _ _ _ _ => rfl
  have C := hide (hashC W4 R a c bs at' b (h.below hB4) ((hB4.cell (p := ⟨b, 0, none⟩) hblt).trans hb))
  have HA1 := hide (hA1.below hB4' hA1.lt)
  have HA2 := hide (hA2.below hB4' hA2.lt)
  have HA3 := hide hA3
  have HB4 := hide hB4
  have E4 := hide e4
  have E0 := hide e0
  have HS := hide hs0
  by_cases h1 : bs.length < at' + 32
  · rw [show rowO 32 bs at' = .inl 6 by unfold rowO; rw [if_pos h1]] at C ⊢
    clear h h0 hb hB0 hs0 hA1 hA2 hA3 e0 e4 hB4' hB4 h1
    go_enter_defers Try.func134, Try.ntmps134
    go_upto_region 1 with fail
    rw [show (w.alloc (.cells #[.pointer (some ⟨R, 0, none⟩)] 48)).alloc (.cells #[.int .u8 0, .int .u8 0, .int .u8 0, .int .u8 0, .int .u8 0, .int .u8 0, .int .u8 0, .int .u8 0, .int .u8 0, .int .u8 0, .int .u8 0, .int .u8 0, .int .u8 0, .int .u8 0, .int .u8 0, .int .u8 0, .int .u8 0, .int .u8 0, .int .u8 0, .int .u8 0, .int .u8 0, .int .u8 0, .int .u8 0, .int .u8 0, .int .u8 0, .int .u8 0, .int .u8 0, .int .u8 0, .int .u8 0, .int .u8 0, .int .u8 0, .int .u8 0] 34) = W0 from E0.out.symm]
    go_upto_region 5 with ((go_at_call 123; refine (H.out).mono ?_; rintro e w1 ⟨rfl, rfl⟩))
    rw [← E4.out]
    go_wp2_with ((go_at_call 135; refine (C.out).mono ?_; rintro e w1 ⟨rfl, ⟨p, hr⟩, hf⟩))
    have k1 : w1.cell? ⟨w.heap.size, 0, none⟩ = some (.pointer (some ⟨R, 0, none⟩)) := (hf.cell (p := ⟨w.heap.size, 0, none⟩) HA1.out.lt (fun h => by have : w.heap.size = R := h; omega)).trans (HA1.out.cell 0)
    have k2 : w1.cell? ⟨W0.heap.size, 0, none⟩ = some (.int .i64 (at' : Int)) := (hf.cell (p := ⟨W0.heap.size, 0, none⟩) HA3.out.lt (fun h => by have h' : W0.heap.size = R := h; have := HS.out; omega)).trans (HA3.out.cell 0)
    have k3 : At w1 (w.heap.size + 1) 34 (b8 (zz 32)) := At.fr HA2.out hf (fun h => by have h' : w.heap.size + 1 = R := h; omega)
    refine leaves_cons (f := 208) (args := #[.pointer (some ⟨w.heap.size, 0, none⟩), .pointer (some ⟨W0.heap.size, 0, none⟩)]) (by simp) (by simp [go_sem]) ?_
    refine (catch_hash w.heap.size W0.heap.size w1 R a c bs p 0 0 6 at' hr k1 k2).mono ?_
    rintro e u' w'' ⟨rfl, rfl, hR, hF⟩
    have k4 : At w'' (w.heap.size + 1) 34 (b8 (zz 32)) := At.fr k3 hF (fun h => by have h' : w.heap.size + 1 = R := h; omega)
    exact ⟨_, retRow k4 Try.results134 _ (by rfl) (.array 32 5) 32 Try.underlying34 rfl (by kernel_rfl) (zz_len _), rfl, ⟨p, hR⟩, ((Fr.of_below HB4.out).trans hf).trans hF⟩
  · have HO := hide (own_lt h.bin (by intro e; rw [e] at h1; simp at h1))
    have HZ := hide (show (b8 ((bs.drop at').take 32)).length = 32 by rw [b8_len]; simp; omega)
    rw [show rowO 32 bs at' = .inr ((bs.drop at').take 32, at' + 32) by unfold rowO; rw [if_neg h1]] at C ⊢
    generalize (bs.drop at').take 32 = l at C HZ ⊢
    clear h h0 hb hB0 hs0 hA1 hA2 hA3 e0 e4 hB4' hB4 h1
    go_enter_defers Try.func134, Try.ntmps134
    go_upto_region 1 with fail
    rw [show (w.alloc (.cells #[.pointer (some ⟨R, 0, none⟩)] 48)).alloc (.cells #[.int .u8 0, .int .u8 0, .int .u8 0, .int .u8 0, .int .u8 0, .int .u8 0, .int .u8 0, .int .u8 0, .int .u8 0, .int .u8 0, .int .u8 0, .int .u8 0, .int .u8 0, .int .u8 0, .int .u8 0, .int .u8 0, .int .u8 0, .int .u8 0, .int .u8 0, .int .u8 0, .int .u8 0, .int .u8 0, .int .u8 0, .int .u8 0, .int .u8 0, .int .u8 0, .int .u8 0, .int .u8 0, .int .u8 0, .int .u8 0, .int .u8 0, .int .u8 0] 34) = W0 from E0.out.symm]
    go_upto_region 5 with ((go_at_call 123; refine (H.out).mono ?_; rintro e w1 ⟨rfl, rfl⟩))
    rw [← E4.out]
    refine wp_region_lit ?_
    refine sV (.func (.func 135) #[] #[.pointer (some ⟨b, 0, none⟩)]) (W4) (by kernel_rfl) (by kernel_rfl) ?_
    simp only [Act.put, List.setIfInBounds_toArray, List.set_cons_succ, List.set_cons_zero]
    refine sC (v := aggB l) (R := fun w' => RSt w' R a c bs (at' + 32) 0 0 ∧ Fr (Xr R) W4 w') (by kernel_rfl) (by kernel_rfl) (C.out.mono fun e w' ⟨v, h1, h2, h3, h4⟩ => ⟨by rw [h1, h2], h3, h4⟩) ?_
    rintro w6 ⟨hr, hf⟩
    simp only [Act.put, List.setIfInBounds_toArray, List.set_cons_succ, List.set_cons_zero]
    have HA6 := hide (At.fr HA2.out hf (fun h => by have h' : w.heap.size + 1 = R := h; omega))
    have HR6 := hide hr
    have HF6 := hide ((Fr.of_below HB4.out).trans hf)
    clear hr hf
    refine stepStore (by rfl) _ _ _ (by rfl) _ (b8 l) (by kernel_rfl) (by kernel_rfl) HA6.out 32 (by kernel_rfl) (zz_len _) HZ.out (all_oneCell_toArray (one_b8 _)) ?_
    obtain ⟨WL, eWL⟩ : ∃ X, X = w6.setRow (w.heap.size + 1) (b8 l).toArray := ⟨_, rfl⟩
    have HAL := hide (show At WL (w.heap.size + 1) 34 (b8 l) by rw [eWL]; exact HA6.out.put _)
    have HFL := hide (show Fr (Xr R) w WL by rw [eWL]; exact Fr.setRow HF6.out _ _ (fun h => by omega))
    have HRL := hide (show RSt WL R a c bs (at' + 32) 0 0 by rw [eWL]; exact RSt_row HR6.out _ _ (by omega) HO.out (by omega))
    rw [← eWL]
    clear eWL
    go_wp2_with fail
    refine leaves_cons (f := 208) (args := #[.pointer (some ⟨w.heap.size, 0, none⟩), .pointer (some ⟨W0.heap.size, 0, none⟩)]) (by simp) (by simp [go_sem]) ?_
    refine (idle_hash _ _ WL).mono ?_
    rintro e u' w'' ⟨rfl, rfl, rfl⟩
    exact ⟨_, retRow HAL.out Try.results134 _ (by rfl) (.array 32 5) 32 Try.underlying34 rfl (by kernel_rfl) HZ.out, _, rfl, rfl, HRL.out, HFL.out⟩
set_option maxRecDepth 8000 in
set_option maxHeartbeats 1000000 in
theorem read_key (w : World) (R : Nat) (a : Option Addr) (c : Nat) (bs : List Int) (at' b : Nat) (h : RSt w R a c bs at' 0 0) (hb : w.cell? ⟨b, 0, none⟩ = some (.pointer (some ⟨R, 0, none⟩))) :
    Calls Try.prog 138 #[.pointer (some ⟨R, 0, none⟩), .func (.func 139) #[] #[.pointer (some ⟨b, 0, none⟩)]] w (ReadPost w R a c bs at' (aggB (zz 4)) (outOf aggB (rowO 4 bs at'))) := by
  have hlt := h.lt
  have hblt : b < w.heap.size := World.block_lt_of_cell? w ⟨b, 0, none⟩ hb
  obtain ⟨W0, e0⟩ : ∃ X, X = WZ w (.pointer (some ⟨R, 0, none⟩)) 36 4 := ⟨_, rfl⟩
  have hB0 : Below w.heap.size w W0 := by rw [e0]; exact WZ_below _ _ _ _
  have hs0 : W0.heap.size = w.heap.size + 2 := by rw [e0]; exact WZ_size _ _ _ _
  have hA1 : At W0 w.heap.size 48 [.pointer (some ⟨R, 0, none⟩)] := by rw [e0]; exact WZ_at1 _ _ _ _
  have hA2 : At W0 (w.heap.size + 1) 36 (b8 (zz 4)) := by rw [e0]; exact WZ_at2 _ _ _ _
  have h0 := h.below hB0
  have H := hide (reads_any W0 R a c bs at' 0 0 h0)
  have c2 : W0.cell? ⟨R, 2, none⟩ = some (.int .i64 (at' : Int)) := by rw [h0.cell.cell]; rfl
  have hc : W0.cell? ⟨w.heap.size, 0, none⟩ = some (.pointer (some ⟨R, 0, none⟩)) := hA1.cell 0
  obtain ⟨W4, e4⟩ : ∃ X, X = W0.alloc (.cells #[.int .i64 (at' : Int)] 3) := ⟨_, rfl⟩
  have hB4' : Below W0.heap.size W0 W4 := by rw [e4]; exact Below.alloc (Below.refl _ _) (Nat.le_refl _) _
  have hB4 : Below w.heap.size w W4 := hB0.trans (hB4'.mono hB0.size)
  have hA3 : At W4 W0.heap.size 3 [.int .i64 (at' : Int)] := by rw [e4]; exact At.new W0 _ [_]
  have hmf : ∀ (fn : Fn) (first cap : Array Value) (w : World), (Instr.makeFunc fn first cap).run Try.prog w = .ok (.func fn first cap) w := fun _ _ _ _ => rfl
  have C := hide (keyC W4 R a c bs at' b (h.below hB4) ((hB4.cell (p := ⟨b, 0, none⟩) hblt).trans hb))
  have HA1 := hide (hA1.below hB4' hA1.lt)
  have HA2 := hide (hA2.below hB4' hA2.lt)
  have HA3 := hide hA3
  have HB4 := hide hB4
  have E4 := hide e4
  have E0 := hide e0
  have HS := hide hs0
  by_cases h1 : bs.length < at' + 4
  · rw [show rowO 4 bs at' = .inl 6 by unfold rowO; rw [if_pos h1]] at C ⊢
    clear h h0 hb hB0 hs0 hA1 hA2 hA3 e0 e4 hB4' hB4 h1
    go_enter_defers Try.func138, Try.ntmps138
    go_upto_region 1 with fail
    rw [show (w.alloc (.cells #[.pointer (some ⟨R, 0, none⟩)] 48)).alloc (.cells #[.int .u8 0, .int .u8 0, .int .u8 0, .int .u8 0] 36) = W0 from E0.out.symm]
    go_upto_region 5 with ((go_at_call 123; refine (H.out).mono ?_; rintro e w1 ⟨rfl, rfl⟩))
    rw [← E4.out]
    go_wp2_with ((go_at_call 139; refine (C.out).mono ?_; rintro e w1 ⟨rfl, ⟨p, hr⟩, hf⟩))
    have k1 : w1.cell? ⟨w.heap.size, 0, none⟩ = some (.pointer (some ⟨R, 0, none⟩)) := (hf.cell (p := ⟨w.heap.size, 0, none⟩) HA1.out.lt (fun h => by have : w.heap.size = R := h; omega)).trans (HA1.out.cell 0)
    have k2 : w1.cell? ⟨W0.heap.size, 0, none⟩ = some (.int .i64 (at' : Int)) := (hf.cell (p := ⟨W0.heap.size, 0, none⟩) HA3.out.lt (fun h => by have h' : W0.heap.size = R := h; have := HS.out; omega)).trans (HA3.out.cell 0)
    have k3 : At w1 (w.heap.size + 1) 36 (b8 (zz 4)) := At.fr HA2.out hf (fun h => by have h' : w.heap.size + 1 = R := h; omega)
    refine leaves_cons (f := 209) (args := #[.pointer (some ⟨w.heap.size, 0, none⟩), .pointer (some ⟨W0.heap.size, 0, none⟩)]) (by simp) (by simp [go_sem]) ?_
    refine (catch_key w.heap.size W0.heap.size w1 R a c bs p 0 0 6 at' hr k1 k2).mono ?_
    rintro e u' w'' ⟨rfl, rfl, hR, hF⟩
    have k4 : At w'' (w.heap.size + 1) 36 (b8 (zz 4)) := At.fr k3 hF (fun h => by have h' : w.heap.size + 1 = R := h; omega)
    exact ⟨_, retRow k4 Try.results138 _ (by rfl) (.array 4 5) 4 Try.underlying36 rfl (by kernel_rfl) (zz_len _), rfl, ⟨p, hR⟩, ((Fr.of_below HB4.out).trans hf).trans hF⟩
  · have HO := hide (own_lt h.bin (by intro e; rw [e] at h1; simp at h1))
    have HZ := hide (show (b8 ((bs.drop at').take 4)).length = 4 by rw [b8_len]; simp; omega)
    rw [show rowO 4 bs at' = .inr ((bs.drop at').take 4, at' + 4) by unfold rowO; rw [if_neg h1]] at C ⊢
    generalize (bs.drop at').take 4 = l at C HZ ⊢
    clear h h0 hb hB0 hs0 hA1 hA2 hA3 e0 e4 hB4' hB4 h1
    go_enter_defers Try.func138, Try.ntmps138
    go_upto_region 1 with fail
    rw [show (w.alloc (.cells #[.pointer (some ⟨R, 0, none⟩)] 48)).alloc (.cells #[.int .u8 0, .int .u8 0, .int .u8 0, .int .u8 0] 36) = W0 from E0.out.symm]
    go_upto_region 5 with ((go_at_call 123; refine (H.out).mono ?_; rintro e w1 ⟨rfl, rfl⟩))
    rw [← E4.out]
    refine wp_region_lit ?_
    refine sV (.func (.func 139) #[] #[.pointer (some ⟨b, 0, none⟩)]) (W4) (by kernel_rfl) (by kernel_rfl) ?_
    simp only [Act.put, List.setIfInBounds_toArray, List.set_cons_succ, List.set_cons_zero]
    refine sC (v := aggB l) (R := fun w' => RSt w' R a c bs (at' + 4) 0 0 ∧ Fr (Xr R) W4 w') (by kernel_rfl) (by kernel_rfl) (C.out.mono fun e w' ⟨v, h1, h2, h3, h4⟩ => ⟨by rw [h1, h2], h3, h4⟩) ?_
    rintro w6 ⟨hr, hf⟩
    simp only [Act.put, List.setIfInBounds_toArray, List.set_cons_succ, List.set_cons_zero]
    have HA6 := hide (At.fr HA2.out hf (fun h => by have h' : w.heap.size + 1 = R := h; omega))
    have HR6 := hide hr
    have HF6 := hide ((Fr.of_below HB4.out).trans hf)
    clear hr hf
    refine stepStore (by rfl) _ _ _ (by rfl) _ (b8 l) (by kernel_rfl) (by kernel_rfl) HA6.out 4 (by kernel_rfl) (zz_len _) HZ.out (all_oneCell_toArray (one_b8 _)) ?_
    obtain ⟨WL, eWL⟩ : ∃ X, X = w6.setRow (w.heap.size + 1) (b8 l).toArray := ⟨_, rfl⟩
    have HAL := hide (show At WL (w.heap.size + 1) 36 (b8 l) by rw [eWL]; exact HA6.out.put _)
    have HFL := hide (show Fr (Xr R) w WL by rw [eWL]; exact Fr.setRow HF6.out _ _ (fun h => by omega))
    have HRL := hide (show RSt WL R a c bs (at' + 4) 0 0 by rw [eWL]; exact RSt_row HR6.out _ _ (by omega) HO.out (by omega))
    rw [← eWL]
    clear eWL
    go_wp2_with fail
    refine leaves_cons (f := 209) (args := #[.pointer (some ⟨w.heap.size, 0, none⟩), .pointer (some ⟨W0.heap.size, 0, none⟩)]) (by simp) (by simp [go_sem]) ?_
    refine (idle_key _ _ WL).mono ?_
    rintro e u' w'' ⟨rfl, rfl, rfl⟩
    exact ⟨_, retRow HAL.out Try.results138 _ (by rfl) (.array 4 5) 4 Try.underlying36 rfl (by kernel_rfl) HZ.out, _, rfl, rfl, HRL.out, HFL.out⟩
end WirQ
end Go.Proofs.Ythcemghamdmjmaa

namespace Go.Proofs.Ythcemghamdmjmaa
namespace WirR
open Go.RowKit
open BlkM WirM WirS WirA WirB WirE WirF WirG WirH WirI WirJ WirK WirL WirN WirO WirP WirQ

theorem below_row {w w1 : World} {V : Nat} {c : Array Value} (h : Below w.heap.size w w1) (hV : w.heap.size ≤ V) : Below w.heap.size w (w1.setRow V c) := Below.setRowOwn h hV _
theorem hash_call (w : World) (p : Option Addr) (l : List Int) (hl : l.length = 32) (Q : World → Prop)
    (H0 : Calls Try.prog 134 #[.pointer p, .func (.func 135) #[] #[.pointer (some ⟨w.heap.size, 0, none⟩)]] (WZ w (.pointer p) 34 32) fun e w' => e = .returned (aggB l) ∧ Q w')
    (hQ : ∀ w1, Q w1 → At w1 (w.heap.size + 1) 34 (b8 (zz 32))) :
    Calls Try.prog 40 #[.pointer p] w fun e w' => e = .returned (aggB l) ∧ ∃ w1, Q w1 ∧ w' = w1.setRow (w.heap.size + 1) (b8 l).toArray := by
  obtain ⟨W0, e0⟩ : ∃ X, X = WZ w (.pointer p) 34 32 := ⟨_, rfl⟩
  rw [← e0] at H0
  have hc : W0.cell? ⟨w.heap.size, 0, none⟩ = some (.pointer p) := by rw [e0]; exact (WZ_at1 _ _ _ _).cell 0
  have H := hide H0
  have HQ := hide hQ
  have E0 := hide e0
  have HL := hide (show (b8 l).length = 32 by rw [b8_len]; exact hl)
  clear H0 hQ e0 hl
  have hmf : ∀ (fn : Fn) (first cap : Array Value) (w : World), (Instr.makeFunc fn first cap).run Try.prog w = .ok (.func fn first cap) w := fun _ _ _ _ => rfl
  go_enter Try.func40, Try.ntmps40
  go_upto_region 1 with fail
  rw [show (w.alloc (.cells #[.pointer p] 48)).alloc (.cells #[.int .u8 0, .int .u8 0, .int .u8 0, .int .u8 0, .int .u8 0, .int .u8 0, .int .u8 0, .int .u8 0, .int .u8 0, .int .u8 0, .int .u8 0, .int .u8 0, .int .u8 0, .int .u8 0, .int .u8 0, .int .u8 0, .int .u8 0, .int .u8 0, .int .u8 0, .int .u8 0, .int .u8 0, .int .u8 0, .int .u8 0, .int .u8 0, .int .u8 0, .int .u8 0, .int .u8 0, .int .u8 0, .int .u8 0, .int .u8 0, .int .u8 0, .int .u8 0] 34) = W0 from E0.out.symm]
  refine wp_region_lit ?_
  refine sP (by kernel_rfl) _ _ (by rfl) ⟨w.heap.size, 0, none⟩ (by kernel_rfl) (.pointer p) hc (by kernel_rfl) ?_
  simp only [Act.put, List.setIfInBounds_toArray, List.set_cons_succ, List.set_cons_zero]
  refine sV (.func (.func 135) #[] #[.pointer (some ⟨w.heap.size, 0, none⟩)]) (W0) (by kernel_rfl) (by kernel_rfl) ?_
  simp only [Act.put, List.setIfInBounds_toArray, List.set_cons_succ, List.set_cons_zero]
  refine sC (v := aggB l) (R := Q) (by kernel_rfl) (by kernel_rfl) H.out ?_
  intro w6 hq
  simp only [Act.put, List.setIfInBounds_toArray, List.set_cons_succ, List.set_cons_zero]
  have HA6 := hide (HQ.out w6 hq)
  have HQ6 := hide hq
  clear hq
  refine stepStore (by rfl) _ _ _ (by rfl) _ (b8 l) (by kernel_rfl) (by kernel_rfl) HA6.out 32 (by kernel_rfl) (zz_len _) HL.out (all_oneCell_toArray (one_b8 _)) ?_
  obtain ⟨WL, eWL⟩ : ∃ X, X = w6.setRow (w.heap.size + 1) (b8 l).toArray := ⟨_, rfl⟩
  have HAL := hide (show At WL (w.heap.size + 1) 34 (b8 l) by rw [eWL]; exact HA6.out.put _)
  rw [← eWL]
  have EWL := hide eWL
  clear eWL
  go_wp2_with fail
  exact bodyPost_ret (retRow HAL.out Try.results40 _ (by rfl) (.array 32 5) 32 Try.underlying34 rfl (by kernel_rfl) HL.out) rfl ⟨rfl, _, HQ6.out, EWL.out⟩
theorem hash_none (w : World) (p : Option Addr) (h : NoR w p) (hp : ∀ S, p = some ⟨S, 0, none⟩ → S < w.heap.size) : Calls Try.prog 40 #[.pointer p] w fun e w' => e = .returned (aggB (zz 32)) ∧ Below w.heap.size w w' := by
  have hb := WZ_below w (.pointer p) 34 32
  refine (hash_call w p (zz 32) (by simp [zz]) _ (read_none_hash _ p _ (by
    rcases h with rfl | ⟨S, rfl, hc⟩
    · exact .inl rfl
    · exact .inr ⟨S, rfl, (hb.cell (hp S rfl)).trans hc⟩) (fun S hS => Nat.lt_of_lt_of_le (hp S hS) hb.size)) (fun w1 h1 => (WZ_at2 _ _ _ _).below h1 (WZ_at2 _ _ _ _).lt)).mono ?_
  rintro e w' ⟨rfl, w1, h1, rfl⟩
  exact ⟨rfl, below_row (hb.trans (h1.mono hb.size)) (by omega)⟩
theorem hash_fault (w : World) (R : Nat) (a : Option Addr) (c : Nat) (bs : List Int) (at' : Nat) (fe fa : Int) (h : RSt w R a c bs at' fe fa) (he : fe ≠ 0) : Calls Try.prog 40 #[.pointer (some ⟨R, 0, none⟩)] w fun e w' => e = .returned (aggB (zz 32)) ∧ Below w.heap.size w w' := by
  have hb := WZ_below w (.pointer (some ⟨R, 0, none⟩)) 34 32
  refine (hash_call w _ (zz 32) (by simp [zz]) _ (read_fault_hash _ R a c bs at' fe fa _ (h.below hb) he) (fun w1 h1 => (WZ_at2 _ _ _ _).below h1 (WZ_at2 _ _ _ _).lt)).mono ?_
  rintro e w' ⟨rfl, w1, h1, rfl⟩
  exact ⟨rfl, below_row (hb.trans (h1.mono hb.size)) (by omega)⟩
theorem hash_read (w : World) (R : Nat) (a : Option Addr) (c : Nat) (bs : List Int) (at' : Nat) (h : RSt w R a c bs at' 0 0) : Calls Try.prog 40 #[.pointer (some ⟨R, 0, none⟩)] w (ReadPost w R a c bs at' (aggB (zz 32)) (outOf aggB (rowO 32 bs at'))) := by
  have hlt := h.lt
  have hb := WZ_below w (.pointer (some ⟨R, 0, none⟩)) 34 32
  have hsz := WZ_size w (.pointer (some ⟨R, 0, none⟩)) 34 32
  have C := read_hash (WZ w (.pointer (some ⟨R, 0, none⟩)) 34 32) R a c bs at' w.heap.size (h.below hb) ((WZ_at1 _ _ _ _).cell 0)
  have k2 := WZ_at2 w (.pointer (some ⟨R, 0, none⟩)) 34 32
  have hoff : ∀ k, (Value.slice a bs.length c).ownBlock = some k → k ≠ w.heap.size + 1 := fun k hk => by
    have := h.olt k hk
    omega
  have hrow : ∀ {w1 : World} {q : Nat} {fe fa : Int} {cs : Array Value}, RSt w1 R a c bs q fe fa → RSt (w1.setRow (w.heap.size + 1) cs) R a c bs q fe fa := fun {w1 q fe fa cs} hr =>
    hr.fr (X := fun k => k = w.heap.size + 1) (Fr.setRow (Fr.refl _ w1) _ cs (fun _ => rfl)) (by omega) (fun k hk hx => hoff k hk hx)
  by_cases h1 : bs.length < at' + 32
  · rw [show rowO 32 bs at' = .inl 6 by unfold rowO; rw [if_pos h1]] at C ⊢
    refine (hash_call w _ (zz 32) (by simp [zz]) _ C (fun w1 h1 => At.fr k2 h1.2 (fun h => by have h' : w.heap.size + 1 = R := h; omega))).mono ?_
    rintro e w' ⟨rfl, w1, ⟨⟨p, hr⟩, hf⟩, rfl⟩
    exact ⟨rfl, ⟨p, hrow hr⟩, Fr.setRow ((Fr.of_below hb).trans hf) _ _ (fun h => by omega)⟩
  · rw [show rowO 32 bs at' = .inr ((bs.drop at').take 32, at' + 32) by unfold rowO; rw [if_neg h1]] at C ⊢
    refine (hash_call w _ ((bs.drop at').take 32) (by simp; omega) _ (C.mono fun e w' ⟨v, h1, h2, h3, h4⟩ => (⟨by rw [h1, h2], h3, h4⟩ : _ ∧ RSt w' R a c bs (at' + 32) 0 0 ∧ Fr (Xr R) (WZ w (.pointer (some ⟨R, 0, none⟩)) 34 32) w')) (fun w1 h1 => At.fr k2 h1.2 (fun h => by have h' : w.heap.size + 1 = R := h; omega))).mono ?_
    rintro e w' ⟨rfl, w1, ⟨hr, hf⟩, rfl⟩
    exact ⟨_, rfl, rfl, hrow hr, Fr.setRow ((Fr.of_below hb).trans hf) _ _ (fun h => by omega)⟩
theorem key_call (w : World) (p : Option Addr) (l : List Int) (hl : l.length = 4) (Q : World → Prop)
    (H0 : Calls Try.prog 138 #[.pointer p, .func (.func 139) #[] #[.pointer (some ⟨w.heap.size, 0, none⟩)]] (WZ w (.pointer p) 36 4) fun e w' => e = .returned (aggB l) ∧ Q w')
    (hQ : ∀ w1, Q w1 → At w1 (w.heap.size + 1) 36 (b8 (zz 4))) :
    Calls Try.prog 41 #[.pointer p] w fun e w' => e = .returned (aggB l) ∧ ∃ w1, Q w1 ∧ w' = w1.setRow (w.heap.size + 1) (b8 l).toArray := by
  obtain ⟨W0, e0⟩ : ∃ X, X = WZ w (.pointer p) 36 4 := ⟨_, rfl⟩
  rw [← e0] at H0
  have hc : W0.cell? ⟨w.heap.size, 0, none⟩ = some (.pointer p) := by rw [e0]; exact (WZ_at1 _ _ _ _).cell 0
  have H := hide H0
  have HQ := hide hQ
  have E0 := hide e0
  have HL := hide (show (b8 l).length = 4 by rw [b8_len]; exact hl)
  clear H0 hQ e0 hl
  have hmf : ∀ (fn : Fn) (first cap : Array Value) (w : World), (Instr.makeFunc fn first cap).run Try.prog w = .ok (.func fn first cap) w := fun _ _ _ _ => rfl
  go_enter Try.func41, Try.ntmps41
  go_upto_region 1 with fail
  rw [show (w.alloc (.cells #[.pointer p] 48)).alloc (.cells #[.int .u8 0, .int .u8 0, .int .u8 0, .int .u8 0] 36) = W0 from E0.out.symm]
  refine wp_region_lit ?_
  refine sP (by kernel_rfl) _ _ (by rfl) ⟨w.heap.size, 0, none⟩ (by kernel_rfl) (.pointer p) hc (by kernel_rfl) ?_
  simp only [Act.put, List.setIfInBounds_toArray, List.set_cons_succ, List.set_cons_zero]
  refine sV (.func (.func 139) #[] #[.pointer (some ⟨w.heap.size, 0, none⟩)]) (W0) (by kernel_rfl) (by kernel_rfl) ?_
  simp only [Act.put, List.setIfInBounds_toArray, List.set_cons_succ, List.set_cons_zero]
  refine sC (v := aggB l) (R := Q) (by kernel_rfl) (by kernel_rfl) H.out ?_
  intro w6 hq
  simp only [Act.put, List.setIfInBounds_toArray, List.set_cons_succ, List.set_cons_zero]
  have HA6 := hide (HQ.out w6 hq)
  have HQ6 := hide hq
  clear hq
  refine stepStore (by rfl) _ _ _ (by rfl) _ (b8 l) (by kernel_rfl) (by kernel_rfl) HA6.out 4 (by kernel_rfl) (zz_len _) HL.out (all_oneCell_toArray (one_b8 _)) ?_
  obtain ⟨WL, eWL⟩ : ∃ X, X = w6.setRow (w.heap.size + 1) (b8 l).toArray := ⟨_, rfl⟩
  have HAL := hide (show At WL (w.heap.size + 1) 36 (b8 l) by rw [eWL]; exact HA6.out.put _)
  rw [← eWL]
  have EWL := hide eWL
  clear eWL
  go_wp2_with fail
  exact bodyPost_ret (retRow HAL.out Try.results41 _ (by rfl) (.array 4 5) 4 Try.underlying36 rfl (by kernel_rfl) HL.out) rfl ⟨rfl, _, HQ6.out, EWL.out⟩
theorem key_none (w : World) (p : Option Addr) (h : NoR w p) (hp : ∀ S, p = some ⟨S, 0, none⟩ → S < w.heap.size) : Calls Try.prog 41 #[.pointer p] w fun e w' => e = .returned (aggB (zz 4)) ∧ Below w.heap.size w w' := by
  have hb := WZ_below w (.pointer p) 36 4
  refine (key_call w p (zz 4) (by simp [zz]) _ (read_none_key _ p _ (by
    rcases h with rfl | ⟨S, rfl, hc⟩
    · exact .inl rfl
    · exact .inr ⟨S, rfl, (hb.cell (hp S rfl)).trans hc⟩) (fun S hS => Nat.lt_of_lt_of_le (hp S hS) hb.size)) (fun w1 h1 => (WZ_at2 _ _ _ _).below h1 (WZ_at2 _ _ _ _).lt)).mono ?_
  rintro e w' ⟨rfl, w1, h1, rfl⟩
  exact ⟨rfl, below_row (hb.trans (h1.mono hb.size)) (by omega)⟩
theorem key_fault (w : World) (R : Nat) (a : Option Addr) (c : Nat) (bs : List Int) (at' : Nat) (fe fa : Int) (h : RSt w R a c bs at' fe fa) (he : fe ≠ 0) : Calls Try.prog 41 #[.pointer (some ⟨R, 0, none⟩)] w fun e w' => e = .returned (aggB (zz 4)) ∧ Below w.heap.size w w' := by
  have hb := WZ_below w (.pointer (some ⟨R, 0, none⟩)) 36 4
  refine (key_call w _ (zz 4) (by simp [zz]) _ (read_fault_key _ R a c bs at' fe fa _ (h.below hb) he) (fun w1 h1 => (WZ_at2 _ _ _ _).below h1 (WZ_at2 _ _ _ _).lt)).mono ?_
  rintro e w' ⟨rfl, w1, h1, rfl⟩
  exact ⟨rfl, below_row (hb.trans (h1.mono hb.size)) (by omega)⟩
theorem key_read (w : World) (R : Nat) (a : Option Addr) (c : Nat) (bs : List Int) (at' : Nat) (h : RSt w R a c bs at' 0 0) : Calls Try.prog 41 #[.pointer (some ⟨R, 0, none⟩)] w (ReadPost w R a c bs at' (aggB (zz 4)) (outOf aggB (rowO 4 bs at'))) := by
  have hlt := h.lt
  have hb := WZ_below w (.pointer (some ⟨R, 0, none⟩)) 36 4
  have hsz := WZ_size w (.pointer (some ⟨R, 0, none⟩)) 36 4
  have C := read_key (WZ w (.pointer (some ⟨R, 0, none⟩)) 36 4) R a c bs at' w.heap.size (h.below hb) ((WZ_at1 _ _ _ _).cell 0)
  have k2 := WZ_at2 w (.pointer (some ⟨R, 0, none⟩)) 36 4
  have hoff : ∀ k, (Value.slice a bs.length c).ownBlock = some k → k ≠ w.heap.size + 1 := fun k hk => by
    have := h.olt k hk
    omega
  have hrow : ∀ {w1 : World} {q : Nat} {fe fa : Int} {cs : Array Value}, RSt w1 R a c bs q fe fa → RSt (w1.setRow (w.heap.size + 1) cs) R a c bs q fe fa := fun {w1 q fe fa cs} hr =>
    hr.fr (X := fun k => k = w.heap.size + 1) (Fr.setRow (Fr.refl _ w1) _ cs (fun _ => rfl)) (by omega) (fun k hk hx => hoff k hk hx)
  by_cases h1 : bs.length < at' + 4
  · rw [show rowO 4 bs at' = .inl 6 by unfold rowO; rw [if_pos h1]] at C ⊢
    refine (key_call w _ (zz 4) (by simp [zz]) _ C (fun w1 h1 => At.fr k2 h1.2 (fun h => by have h' : w.heap.size + 1 = R := h; omega))).mono ?_
    rintro e w' ⟨rfl, w1, ⟨⟨p, hr⟩, hf⟩, rfl⟩
    exact ⟨rfl, ⟨p, hrow hr⟩, Fr.setRow ((Fr.of_below hb).trans hf) _ _ (fun h => by omega)⟩
  · rw [show rowO 4 bs at' = .inr ((bs.drop at').take 4, at' + 4) by unfold rowO; rw [if_neg h1]] at C ⊢
    refine (key_call w _ ((bs.drop at').take 4) (by simp; omega) _ (C.mono fun e w' ⟨v, h1, h2, h3, h4⟩ => (⟨by rw [h1, h2], h3, h4⟩ : _ ∧ RSt w' R a c bs (at' + 4) 0 0 ∧ Fr (Xr R) (WZ w (.pointer (some ⟨R, 0, none⟩)) 36 4) w')) (fun w1 h1 => At.fr k2 h1.2 (fun h => by have h' : w.heap.size + 1 = R := h; omega))).mono ?_
    rintro e w' ⟨rfl, w1, ⟨hr, hf⟩, rfl⟩
    exact ⟨_, rfl, rfl, hrow hr, Fr.setRow ((Fr.of_below hb).trans hf) _ _ (fun h => by omega)⟩
end WirR
end Go.Proofs.Ythcemghamdmjmaa

namespace Go.Proofs.Ythcemghamdmjmaa
namespace WirT
open Go.RowKit
open BlkM WirM WirS WirA WirB WirE WirF WirG WirH WirI WirJ WirK WirL WirN WirO WirP WirQ WirR

def fault (e at' : Int) : Value := .agg #[.int .i64 e, .int .i64 at']
theorem end_none (w : World) (p : Option Addr) (h : NoR w p) (hp : ∀ S, p = some ⟨S, 0, none⟩ → S < w.heap.size) : Calls Try.prog 35 #[.pointer p] w fun e w' => e = .returned (fault 1 0) ∧ Below w.heap.size w w' := by
  have H := hide (fun W (hb : Below w.heap.size w W) => valid_none W p (by
    rcases h with rfl | ⟨S, rfl, hc⟩
    · exact .inl rfl
    · exact .inr ⟨S, rfl, (hb.cell (hp S rfl)).trans hc⟩))
  have hb := hide (show Below w.heap.size w (w.alloc (.cells #[.int .i64 0, .int .i64 0] 55)) from Below.alloc (Below.refl _ _) (Nat.le_refl _) _)
  clear h hp
  go_enter Try.func35, Try.ntmps35
  go_wp2_with ((go_at_call 124; refine (H.out _ hb.out).mono ?_; rintro e w1 ⟨rfl, rfl⟩))
  exact bodyPost_ret (v := fault 1 0) (by simp [results, Try.results35, go_sem, fault]) rfl ⟨rfl, Below.alloc (Below.refl _ _) (Nat.le_refl _) _⟩
def endE (bs : List Int) (at' : Nat) (fe : Int) : Int := if 0 < restN bs at' fe then 4 else fe
def endA (bs : List Int) (at' : Nat) (fe fa : Int) : Int := if 0 < restN bs at' fe then (at' : Int) else fa
set_option maxHeartbeats 1000000 in
theorem end_any (w : World) (R : Nat) (a : Option Addr) (c : Nat) (bs : List Int) (at' : Nat) (fe fa : Int) (h : RSt w R a c bs at' fe fa) : Calls Try.prog 35 #[.pointer (some ⟨R, 0, none⟩)] w fun e w' => e = .returned (fault (endE bs at' fe) (endA bs at' fe fa)) ∧ Below w.heap.size w w' := by
  have hlt := h.lt
  obtain ⟨W0, e0⟩ : ∃ X, X = w.alloc (.cells #[.int .i64 0, .int .i64 0] 55) := ⟨_, rfl⟩
  have hB0 : Below w.heap.size w W0 := by rw [e0]; exact Below.alloc (Below.refl _ _) (Nat.le_refl _) _
  have hA0 : At W0 w.heap.size 55 [.int .i64 0, .int .i64 0] := by rw [e0]; exact At.new _ _ [_, _]
  have h0 := h.below hB0
  have c0 : W0.cell? ⟨R, 0, none⟩ = some (.pointer (some ⟨R, 0, none⟩)) := by rw [h0.cell.cell]; rfl
  have V := hide (valid_any W0 R c0)
  have H := hide (rest_any W0 R a c bs at' fe fa h0)
  have E0 := hide e0
  have HB0 := hide hB0
  have d0 : W0.cell? ⟨w.heap.size, 0, none⟩ = some (.int .i64 0) := hA0.cell 0
  have d1 : W0.cell? ⟨w.heap.size, 1, none⟩ = some (.int .i64 0) := hA0.cell 1
  have g0 : W0.frozen? ⟨w.heap.size, 0, none⟩ = false := hA0.frozen 0
  have g1 : W0.frozen? ⟨w.heap.size, 1, none⟩ = false := hA0.frozen 1
  have c2 : W0.cell? ⟨R, 2, none⟩ = some (.int .i64 (at' : Int)) := by rw [h0.cell.cell]; rfl
  have c3 : W0.cell? ⟨R, 3, none⟩ = some (.int .i64 fe) := by rw [h0.cell.cell]; rfl
  have c4 : W0.cell? ⟨R, 4, none⟩ = some (.int .i64 fa) := by rw [h0.cell.cell]; rfl
  have HA0 := hide hA0
  generalize hr : restN bs at' fe = r at H
  have hEE : endE bs at' fe = if 0 < r then 4 else fe := by unfold endE; rw [hr]
  have hEA : endA bs at' fe fa = if 0 < r then (at' : Int) else fa := by unfold endA; rw [hr]
  rw [hEE, hEA]
  have hne : ∀ i j, (⟨w.heap.size, i, none⟩ : Addr) ≠ ⟨R, j, none⟩ := fun i j e => by
    have : w.heap.size = R := congrArg Addr.block e
    omega
  clear h h0 e0 hB0 hA0 c0 hr hEE hEA
  by_cases h1 : 0 < r
  · rw [if_pos h1, if_pos h1]
    go_enter Try.func35, Try.ntmps35
    go_upto_region 1 with fail
    rw [← E0.out]
    go_wp2_with (first | ((go_at_call 124; refine (V.out).mono ?_; rintro e w1 ⟨rfl, rfl⟩)) | ((go_at_call 33; refine (H.out).mono ?_; rintro e w1 ⟨rfl, q, rfl⟩)))
    have hA := ((At.fr HA0.out (X := fun _ => False) (Fr.drewN (Fr.refl _ W0) q) (fun h => h)).setCell 0 (.int .i64 4)).setCell 1 (.int .i64 (at' : Int))
    exact bodyPost_ret (retRow hA Try.results35 _ (by rfl) _ 2 Try.underlying55 rfl (by kernel_rfl) rfl) rfl ⟨rfl, ((below_drewN HB0.out q).setCell (by simp) _).setCell (by simp) _⟩
  · rw [if_neg h1, if_neg h1]
    go_enter Try.func35, Try.ntmps35
    go_upto_region 1 with fail
    rw [← E0.out]
    go_wp2_with (first | ((go_at_call 124; refine (V.out).mono ?_; rintro e w1 ⟨rfl, rfl⟩)) | ((go_at_call 33; refine (H.out).mono ?_; rintro e w1 ⟨rfl, q, rfl⟩)))
    have hA := ((At.fr HA0.out (X := fun _ => False) (Fr.drewN (Fr.refl _ W0) q) (fun h => h)).setCell 0 (.int .i64 fe)).setCell 1 (.int .i64 fa)
    exact bodyPost_ret (retRow hA Try.results35 _ (by rfl) _ 2 Try.underlying55 rfl (by kernel_rfl) rfl) rfl ⟨rfl, ((below_drewN HB0.out q).setCell (by simp) _).setCell (by simp) _⟩
set_option maxHeartbeats 1000000 in
theorem newReader_any (w : World) (a : Option Addr) (n c : Nat) (bs : List Int) (h : BIn w (.slice a n c) bs) (hr : ∀ x ∈ bs, 0 ≤ x ∧ x < 256) (hn : n ≤ 1099511627776) :
    Calls Try.prog 30 #[.slice a n c] w fun e w' => ∃ R a2 c2, e = .returned (.pointer (some ⟨R, 0, none⟩)) ∧ w.heap.size ≤ R ∧ RSt w' R a2 c2 bs 0 0 0 ∧ NewB w (.slice a2 bs.length c2) ∧ Below w.heap.size w w' := by
  have hnl : n = bs.length := by
    obtain ⟨_, _, e1, _⟩ := h
    cases e1
    rfl
  have C := hide (clone_any w a n c bs h hn)
  have HN := hide hnl
  clear h hnl
  go_enter Try.func30, Try.ntmps30
  go_wp2_with ((go_at_call 113; refine (C.out).mono ?_; rintro e w1 ⟨va, vn, vc, rfl, ho, hb, hB⟩; have HO := hide ho; have HBB := hide hb; clear ho hb))
  go_ret
  obtain ⟨a3, c3, e3, _⟩ := id HO.out.bin
  obtain ⟨rfl, rfl, rfl⟩ : va = a3 ∧ vn = bs.length ∧ vc = c3 := by cases e3; exact ⟨rfl, rfl, rfl⟩
  have hal : Below w1.heap.size w1 (w1.alloc (.cells (rcells w1.heap.size (.slice va bs.length vc) 0 0 0).toArray 62)) := Below.alloc (Below.refl _ _) (Nat.le_refl _) _
  refine ⟨w1.heap.size, va, vc, rfl, hB.size, ⟨At.new w1 _ _, HO.out.bin.below hal, ?_, ?_, Nat.zero_le _, by rw [← HN.out]; exact hn, hr⟩, HBB.out, hB.trans (hal.mono hB.size)⟩
  · intro e
    have := HO.out.lt _ e
    omega
  · intro k hk
    have := HO.out.lt k hk
    simp
    omega
end WirT
end Go.Proofs.Ythcemghamdmjmaa

