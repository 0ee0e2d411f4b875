/-
  The program's reader: hashes and keys; End, NewReader.
-/
import Derived.Test.YtplinpbmncccoaaWirL
namespace Go.Proofs.Ytplinpbmncccoaa
namespace WirN
open Go.RowKit
open BlkM WirM WirS WirA WirB WirE WirF WirG WirH WirI WirJ WirK WirL

/-- builtin copy, by what it yields here. -/
theorem sCopy {P : Program} {ops : Array Oper} {rest : List Oper} {o : Oper} {a : Act} {w : World} {Q : Exit → Act → World → Prop} (hw : Region.wanted o (yielded ops a.tmps) = true) (t tx : TypeId) (x y : Operand) (ho : o.op = .call { callee := .builtin .copy, args := #[x, y], argTypes := #[t, tx] }) (v s : Value) (hx : a.eval x = v) (hy : a.eval y = s)
    (v' : Value) (w' : World) (hr : (Builtin.copy_ #[t, tx] o.type #[v, s]).run P w = .ok v' w') (h : wpList P ops Q rest (a.put o.dst v') w') : wpList P ops Q (o :: rest) a w :=
  stepW hw fun _ hK => by
    unfold Oper.wp execOp
    simp only [ho, resolve, invoke, builtin, Sem.run_bind, Sem.run_pure, Result.andThen_ok, List.map_toArray, List.map_cons, List.map_nil, hx, hy, hr]
    exact hK _ _ h
/-- A whole array sliced. -/
theorem sSl {P : Program} {ops : Array Oper} {rest : List Oper} {o : Oper} {a : Act} {w : World} {Q : Exit → Act → World → Prop} (hw : Region.wanted o (yielded ops a.tmps) = true) (ty : TypeId) (x : Operand) (ho : o.op = .slice ty x none none none) (p v : Value) (hx : a.eval x = p)
    (hr : (Instr.sliceAt ty p none none none).run P w = .ok v w) (h : wpList P ops Q rest (a.put o.dst v) w) : wpList P ops Q (o :: rest) a w :=
  sV v w hw (by
    unfold execOp
    simp only [ho, hx, Option.map_none, Sem.run_bind, hr, Result.andThen_ok, Sem.run_pure]) h
def zz (n : Nat) : List Int := List.replicate n 0
theorem al_hash (a : Operand → Value) (o : Oper) (ho : o.op = Op.alloc 34) (W : World) : (execOp a o).run Try.prog W = .ok (.value (.pointer (some ⟨W.heap.size, 0, none⟩))) (W.alloc (.cells (b8 (zz 32)).toArray 34)) := by
  unfold execOp
  rw [ho]
  kernel_rfl
theorem cp_hash (w : World) (a : Option Addr) (n c : Nat) (zs : List Int) (h : BIn w (.slice a n c) zs) (hl : zs.length = 32) (ty : TypeId) :
    (Builtin.copy_ #[32, 32] ty #[.slice (some ⟨w.heap.size, 0, none⟩) 32 32, .slice a n c]).run Try.prog (w.alloc (.cells (b8 (zz 32)).toArray 34)) = .ok (.int .i64 32) ((w.alloc (.cells (b8 (zz 32)).toArray 34)).setCells w.heap.size 0 (b8 zs)) := by
  have hb := h.below (Below.alloc (Below.refl _ _) (Nat.le_refl _) (.cells (b8 (zz 32)).toArray 34))
  obtain ⟨a', c', e1, _, hz⟩ := hb
  obtain ⟨rfl, rfl, rfl⟩ : a = a' ∧ n = zs.length ∧ c = c' := by cases e1; exact ⟨rfl, rfl, rfl⟩
  obtain ⟨B, o, rfl, _, hc⟩ := hz (by intro h; subst h; simp at hl)
  have hA := At.new w 34 (b8 (zz 32))
  have hcl : (b8 zs).length = 32 := by rw [b8_len, hl]
  have key := run_copy_cells (P := Try.prog) (w.alloc (.cells (b8 (zz 32)).toArray 34)) 32 32 ty 5 w.heap.size 0 32 32 ⟨B, o, none⟩ zs.length c (b8 zs) Try.underlying32 (by kernel_rfl) (by rw [hcl, hl]; rfl)
    (fun j v hj => by
      have hjl : j < zs.length := by
        have := (List.getElem?_eq_some_iff.1 hj).1
        omega
      rw [b8_get zs j hjl] at hj
      rw [Addr.add_lit, hc j hjl]
      exact hj)
    (fun j hj => by rw [hA.cell]; simp [b8, zz]; omega) (fun j _ => hA.frozen _) (one_b8 zs)
  rw [key, hcl]
  rfl
theorem sl_hash (D : Nat) (Y : World) : (Instr.sliceAt 34 (.pointer (some ⟨D, 0, none⟩)) none none none).run Try.prog Y = .ok (.slice (some ⟨D, 0, none⟩) 32 32) Y := by
  have ha : Try.prog.arrayLen 34 = 32 := by kernel_rfl
  rw [run_sliceAt_array_all Y 34 ⟨D, 0, none⟩ (by kernel_rfl), ha]
  have hs : (sizeOf (Try.prog.elem 34)).run Try.prog Y = .ok 1 Y := by kernel_rfl
  rw [hs]
  simp [slicedAt, Addr.add_lit]
set_option maxHeartbeats 1000000 in
theorem hash_any (w : World) (a : Option Addr) (n c : Nat) (zs : List Int) (h : BIn w (.slice a n c) zs) (hl : zs.length = 32) :
    Calls Try.prog 130 #[.slice a n c] w fun e w' => e = .returned (.agg (b8 zs).toArray) ∧ Below w.heap.size w w' := by
  obtain ⟨W0, e0⟩ : ∃ X, X = w.alloc (.cells (b8 (zz 32)).toArray 34) := ⟨_, rfl⟩
  obtain ⟨W1, e1⟩ : ∃ X, X = W0.setCells w.heap.size 0 (b8 zs) := ⟨_, rfl⟩
  have hA0 : At W0 w.heap.size 34 (b8 (zz 32)) := by rw [e0]; exact At.new _ _ _
  have hB0 : Below w.heap.size w W0 := by rw [e0]; exact Below.alloc (Below.refl _ _) (Nat.le_refl _) _
  have hA1 : At W1 w.heap.size 34 (b8 zs) := by
    rw [e1]
    have := heap_setCells_one w.heap.size 34 (b8 zs) 0 (b8 (zz 32)) W0 hA0 (by rw [b8_len, b8_len, hl]; simp [zz])
    rw [List.take_zero, List.nil_append, List.drop_of_length_le (by rw [b8_len, b8_len, hl]; simp [zz]), List.append_nil] at this
    exact this
  have hB1 : Below w.heap.size w W1 := by
    rw [e1]
    exact hB0.trans ((fr_setCells w.heap.size (b8 zs) 0 W0 W0 (Fr.refl _ _)).below (B := w.heap.size) hB0.size (fun k hk hx => by omega))
  have hc := cp_hash w a n c zs h hl 3
  rw [← e0, ← e1] at hc
  have hlen : (b8 zs).length = 32 := by rw [b8_len, hl]
  have hs := sl_hash w.heap.size W0
  have E0 := hide e0
  have HA1 := hide hA1
  have HB1 := hide hB1
  have HL := hide hlen
  clear e0 e1 hA0 hB0 hA1 hB1 hlen hl h
  go_enter Try.func130, Try.ntmps130
  go_upto_region 1 with fail
  rw [show w.alloc (.cells #[.int .u8 0, .int .u8 0, .int .u8 0, .int .u8 0, .int .u8 0, .int .u8 0, .int .u8 0, .int .u8 0, .int .u8 0, .int .u8 0, .int .u8 0, .int .u8 0, .int .u8 0, .int .u8 0, .int .u8 0, .int .u8 0, .int .u8 0, .int .u8 0, .int .u8 0, .int .u8 0, .int .u8 0, .int .u8 0, .int .u8 0, .int .u8 0, .int .u8 0, .int .u8 0, .int .u8 0, .int .u8 0, .int .u8 0, .int .u8 0, .int .u8 0, .int .u8 0] 34) = W0 from E0.out.symm]
  refine wp_region_lit ?_
  refine sSl (by kernel_rfl) _ _ (by rfl) (.pointer (some ⟨w.heap.size, 0, none⟩)) (.slice (some ⟨w.heap.size, 0, none⟩) 32 32) (by kernel_rfl) hs ?_
  simp only [Act.put, List.setIfInBounds_toArray, List.set_cons_succ, List.set_cons_zero]
  refine sV (.slice a n c) (W0) (by kernel_rfl) (by kernel_rfl) ?_
  simp only [Act.put, List.setIfInBounds_toArray, List.set_cons_succ, List.set_cons_zero]
  refine sCopy (by kernel_rfl) 32 32 _ _ (by rfl) (.slice (some ⟨w.heap.size, 0, none⟩) 32 32) (.slice a n c) (by kernel_rfl) (by kernel_rfl) (.int .i64 32) W1 hc ?_
  simp only [Act.put, List.setIfInBounds_toArray, List.set_cons_succ, List.set_cons_zero]
  clear hs hc
  go_upto_region 2 with fail
  refine wp_region_lit ?_
  refine sL (by kernel_rfl) _ _ (by rfl) _ (by kernel_rfl) HA1.out _ 32 Try.underlying34 rfl (by kernel_rfl) HL.out ?_
  simp only [Act.put, List.setIfInBounds_toArray, List.set_cons_succ, List.set_cons_zero]
  refine stepStore (by rfl) _ _ _ (by rfl) _ (b8 zs) (by kernel_rfl) (by kernel_rfl) HA1.out 32 (by kernel_rfl) HL.out HL.out (all_oneCell_toArray (one_b8 _)) ?_
  obtain ⟨WL, eWL⟩ : ∃ X, X = W1.setRow w.heap.size (b8 zs).toArray := ⟨_, rfl⟩
  have HAL := hide (show At WL w.heap.size 34 (b8 zs) by rw [eWL]; exact HA1.out.put _)
  have HBL := hide (show Below w.heap.size w WL by rw [eWL]; exact Below.setRowOwn HB1.out (Nat.le_refl _) _)
  rw [← eWL]
  clear eWL
  go_wp2_with fail
  exact bodyPost_ret (retRow HAL.out Try.results130 _ (by rfl) (.array 32 5) 32 Try.underlying34 rfl (by kernel_rfl) HL.out) rfl ⟨rfl, HBL.out⟩
theorem al_key (a : Operand → Value) (o : Oper) (ho : o.op = Op.alloc 36) (W : World) : (execOp a o).run Try.prog W = .ok (.value (.pointer (some ⟨W.heap.size, 0, none⟩))) (W.alloc (.cells (b8 (zz 4)).toArray 36)) := by
  unfold execOp
  rw [ho]
  kernel_rfl
theorem cp_key (w : World) (a : Option Addr) (n c : Nat) (zs : List Int) (h : BIn w (.slice a n c) zs) (hl : zs.length = 4) (ty : TypeId) :
    (Builtin.copy_ #[32, 32] ty #[.slice (some ⟨w.heap.size, 0, none⟩) 4 4, .slice a n c]).run Try.prog (w.alloc (.cells (b8 (zz 4)).toArray 36)) = .ok (.int .i64 4) ((w.alloc (.cells (b8 (zz 4)).toArray 36)).setCells w.heap.size 0 (b8 zs)) := by
  have hb := h.below (Below.alloc (Below.refl _ _) (Nat.le_refl _) (.cells (b8 (zz 4)).toArray 36))
  obtain ⟨a', c', e1, _, hz⟩ := hb
  obtain ⟨rfl, rfl, rfl⟩ : a = a' ∧ n = zs.length ∧ c = c' := by cases e1; exact ⟨rfl, rfl, rfl⟩
  obtain ⟨B, o, rfl, _, hc⟩ := hz (by intro h; subst h; simp at hl)
  have hA := At.new w 36 (b8 (zz 4))
  have hcl : (b8 zs).length = 4 := by rw [b8_len, hl]
  have key := run_copy_cells (P := Try.prog) (w.alloc (.cells (b8 (zz 4)).toArray 36)) 32 32 ty 5 w.heap.size 0 4 4 ⟨B, o, none⟩ zs.length c (b8 zs) Try.underlying32 (by kernel_rfl) (by rw [hcl, hl]; rfl)
    (fun j v hj => by
      have hjl : j < zs.length := by
        have := (List.getElem?_eq_some_iff.1 hj).1
        omega
      rw [b8_get zs j hjl] at hj
      rw [Addr.add_lit, hc j hjl]
      exact hj)
    (fun j hj => by rw [hA.cell]; simp [b8, zz]; omega) (fun j _ => hA.frozen _) (one_b8 zs)
  rw [key, hcl]
  rfl
theorem sl_key (D : Nat) (Y : World) : (Instr.sliceAt 36 (.pointer (some ⟨D, 0, none⟩)) none none none).run Try.prog Y = .ok (.slice (some ⟨D, 0, none⟩) 4 4) Y := by
  have ha : Try.prog.arrayLen 36 = 4 := by kernel_rfl
  rw [run_sliceAt_array_all Y 36 ⟨D, 0, none⟩ (by kernel_rfl), ha]
  have hs : (sizeOf (Try.prog.elem 36)).run Try.prog Y = .ok 1 Y := by kernel_rfl
  rw [hs]
  simp [slicedAt, Addr.add_lit]
set_option maxHeartbeats 1000000 in
theorem key_any (w : World) (a : Option Addr) (n c : Nat) (zs : List Int) (h : BIn w (.slice a n c) zs) (hl : zs.length = 4) :
    Calls Try.prog 134 #[.slice a n c] w fun e w' => e = .returned (.agg (b8 zs).toArray) ∧ Below w.heap.size w w' := by
  obtain ⟨W0, e0⟩ : ∃ X, X = w.alloc (.cells (b8 (zz 4)).toArray 36) := ⟨_, rfl⟩
  obtain ⟨W1, e1⟩ : ∃ X, X = W0.setCells w.heap.size 0 (b8 zs) := ⟨_, rfl⟩
  have hA0 : At W0 w.heap.size 36 (b8 (zz 4)) := by rw [e0]; exact At.new _ _ _
  have hB0 : Below w.heap.size w W0 := by rw [e0]; exact Below.alloc (Below.refl _ _) (Nat.le_refl _) _
  have hA1 : At W1 w.heap.size 36 (b8 zs) := by
    rw [e1]
    have := heap_setCells_one w.heap.size 36 (b8 zs) 0 (b8 (zz 4)) W0 hA0 (by rw [b8_len, b8_len, hl]; simp [zz])
    rw [List.take_zero, List.nil_append, List.drop_of_length_le (by rw [b8_len, b8_len, hl]; simp [zz]), List.append_nil] at this
    exact this
  have hB1 : Below w.heap.size w W1 := by
    rw [e1]
    exact hB0.trans ((fr_setCells w.heap.size (b8 zs) 0 W0 W0 (Fr.refl _ _)).below (B := w.heap.size) hB0.size (fun k hk hx => by omega))
  have hc := cp_key w a n c zs h hl 3
  rw [← e0, ← e1] at hc
  have hlen : (b8 zs).length = 4 := by rw [b8_len, hl]
  have hs := sl_key w.heap.size W0
  have E0 := hide e0
  have HA1 := hide hA1
  have HB1 := hide hB1
  have HL := hide hlen
  clear e0 e1 hA0 hB0 hA1 hB1 hlen hl h
  go_enter Try.func134, Try.ntmps134
  go_upto_region 1 with fail
  rw [show w.alloc (.cells #[.int .u8 0, .int .u8 0, .int .u8 0, .int .u8 0] 36) = W0 from E0.out.symm]
  refine wp_region_lit ?_
  refine sSl (by kernel_rfl) _ _ (by rfl) (.pointer (some ⟨w.heap.size, 0, none⟩)) (.slice (some ⟨w.heap.size, 0, none⟩) 4 4) (by kernel_rfl) hs ?_
  simp only [Act.put, List.setIfInBounds_toArray, List.set_cons_succ, List.set_cons_zero]
  refine sV (.slice a n c) (W0) (by kernel_rfl) (by kernel_rfl) ?_
  simp only [Act.put, List.setIfInBounds_toArray, List.set_cons_succ, List.set_cons_zero]
  refine sCopy (by kernel_rfl) 32 32 _ _ (by rfl) (.slice (some ⟨w.heap.size, 0, none⟩) 4 4) (.slice a n c) (by kernel_rfl) (by kernel_rfl) (.int .i64 4) W1 hc ?_
  simp only [Act.put, List.setIfInBounds_toArray, List.set_cons_succ, List.set_cons_zero]
  clear hs hc
  go_upto_region 2 with fail
  refine wp_region_lit ?_
  refine sL (by kernel_rfl) _ _ (by rfl) _ (by kernel_rfl) HA1.out _ 4 Try.underlying36 rfl (by kernel_rfl) HL.out ?_
  simp only [Act.put, List.setIfInBounds_toArray, List.set_cons_succ, List.set_cons_zero]
  refine stepStore (by rfl) _ _ _ (by rfl) _ (b8 zs) (by kernel_rfl) (by kernel_rfl) HA1.out 4 (by kernel_rfl) HL.out HL.out (all_oneCell_toArray (one_b8 _)) ?_
  obtain ⟨WL, eWL⟩ : ∃ X, X = W1.setRow w.heap.size (b8 zs).toArray := ⟨_, rfl⟩
  have HAL := hide (show At WL w.heap.size 36 (b8 zs) by rw [eWL]; exact HA1.out.put _)
  have HBL := hide (show Below w.heap.size w WL by rw [eWL]; exact Below.setRowOwn HB1.out (Nat.le_refl _) _)
  rw [← eWL]
  clear eWL
  go_wp2_with fail
  exact bodyPost_ret (retRow HAL.out Try.results134 _ (by rfl) (.array 4 5) 4 Try.underlying36 rfl (by kernel_rfl) HL.out) rfl ⟨rfl, HBL.out⟩
end WirN
end Go.Proofs.Ytplinpbmncccoaa
