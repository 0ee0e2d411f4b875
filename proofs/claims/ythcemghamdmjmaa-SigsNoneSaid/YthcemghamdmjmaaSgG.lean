/-
  Stage 8's awake: a table for two.
-/
import Derived.Test.YthcemghamdmjmaaSgF
import Derived.Test.YthcemghamdmjmaaPkG
import Derived.Test.YthcemghamdmjmaaPkL
namespace Go.Proofs.Ythcemghamdmjmaa
namespace SgG
open Go.RowKit
open BlkM WirM WirS SgA SgB SgC SgD SgE SgF
open WirX (Thg Bag own)
open WirAA (box bag_box)
open WirAB (sCx)

theorem bag_row {w0 w : World} {l : List Thg} {T : TypeId} {X : Nat} {cs : List Value} (h : Bag w0 w (box T X cs :: l)) (c : List Value) : Bag w0 (w.setRow X c.toArray) (box T X c :: l) :=
  h.act (WirO.Fr.setRow (Fr.refl _ _) X _ (fun _ => rfl)) (At.put h.head c) (fun _ hk => .inl hk)
/-- A table, as an object of a Bag. -/
def tab (X b : Nat) (most : Int) (xs : List Sg) : Thg where
  ok w := Tab w X b most xs
  foot k := k = X ∨ k = b
  stable h hf hX := h.fr hf (hX X (.inl rfl)) (hX b (.inr rfl))
  inside h k hk := by
    rcases hk with rfl | rfl
    · exact h.at'.lt
    · exact h.map.lt
def sg (q s : Int) : Sg := ⟨[0, 0, 0, q], List.replicate 32 0, s⟩
theorem sg_ok {q s : Int} (hq : 0 ≤ q ∧ q < 256) (hs : 0 ≤ s ∧ s < 18446744073709551616) : (sg q s).ok where
  k4 := rfl
  h32 := rfl
  kr y hy := by simp [sg] at hy; rcases hy with rfl | rfl <;> first | decide | exact hq
  hr y hy := by obtain rfl := List.eq_of_mem_replicate hy; decide
  sr := hs
def zs : List Value := (sg 0 0).cells
def sa : Sg := sg 1 7
def sb : Sg := sg 1 5
def sc : Sg := sg 2 1
theorem oka : sa.ok := sg_ok (by decide) (by decide)
theorem okb : sb.ok := sg_ok (by decide) (by decide)
theorem okc : sc.ok := sg_ok (by decide) (by decide)
theorem one_sg (x : Sg) : x.cells.toArray.all (·.oneCell') = true := by simp [Sg.cells, b8, Value.oneCell']
theorem ret3 {P : Program} {w : World} {X Y Z : Nat} {T ty : TypeId} {c1 c2 c3 : List Value} (h1 : At w X T c1) (h2 : At w Y T c2) (h3 : At w Z T c3) {fn : Func} {p q r : Tmp} (h : fn.results = #[.cell p ty, .cell q ty, .cell r ty]) (tmps : Array Value)
    (hp : tmps.getD p undef = .pointer (some ⟨X, 0, none⟩)) (hq : tmps.getD q undef = .pointer (some ⟨Y, 0, none⟩)) (hr : tmps.getD r undef = .pointer (some ⟨Z, 0, none⟩)) (d : TypeDesc) (n : Nat) (hu : P.underlying ty = some d) (hd : (match d with | .struct _ | .array _ _ => true | _ => false) = true)
    (hi : (P.info? ty).map (·.size) = some n) (l1 : c1.length = n) (l2 : c2.length = n) (l3 : c3.length = n) :
    (results fn tmps).run P w = .ok (.tuple #[.agg c1.toArray, .agg c2.toArray, .agg c3.toArray]) w := by
  have e1 := run_loadVar_row (P := P) w X T ty c1.toArray (0, 0) d h1 hu hd (by rw [hi, ← l1]; simp)
  have e2 := run_loadVar_row (P := P) w Y T ty c2.toArray (0, 0) d h2 hu hd (by rw [hi, ← l2]; simp)
  have e3 := run_loadVar_row (P := P) w Z T ty c3.toArray (0, 0) d h3 hu hd (by rw [hi, ← l3]; simp)
  simp only [Array.getD_eq_getD_getElem?] at hp hq hr
  simp only [results, h]
  simp [Sem.run_bind, Result.andThen, hp, hq, hr, asAddr, e1, e2, e3]
set_option maxRecDepth 20000 in
set_option maxHeartbeats 16000000 in
theorem three_any (w : World) : Calls Try.prog 176 #[] w fun e w' => e = .returned (.tuple #[sa.val, sb.val, sc.val]) ∧ Below w.heap.size w w' := by
  have H1 := WirS.hide (Bag.nil (Below.refl w.heap.size w))
  go_enter Try.func176, Try.ntmps176
  go_upto_region 0 with fail
  refine wp_region_lit ?_
  refine sV (.pointer (some ⟨w.heap.size, 0, none⟩)) (w.alloc (.cells zs.toArray 132)) (by kernel_rfl) (by kernel_rfl) ?_
  simp only [Act.put, List.setIfInBounds_toArray, List.set_cons_zero]
  obtain ⟨X, eX⟩ : ∃ A, w.heap.size = A := ⟨_, rfl⟩
  have hbX := bag_box (T := 132) (cs := zs) (X := X) H1.out eX.symm (w' := w.alloc (.cells zs.toArray 132)) (by rw [← eX]; exact At.new _ _ _) (Below.alloc (Below.refl _ _) (Nat.le_refl _) _)
  rw [eX]
  clear eX
  generalize World.alloc w _ = u2 at *
  have H3 := WirS.hide (hbX)
  clear H1
  clear hbX
  refine sV (.pointer (some ⟨u2.heap.size, 0, none⟩)) (u2.alloc (.cells zs.toArray 132)) (by kernel_rfl) (by kernel_rfl) ?_
  simp only [Act.put, List.setIfInBounds_toArray, List.set_cons_succ, List.set_cons_zero]
  obtain ⟨Y, eY⟩ : ∃ A, u2.heap.size = A := ⟨_, rfl⟩
  have hbY := bag_box (T := 132) (cs := zs) (X := Y) H3.out eY.symm (w' := u2.alloc (.cells zs.toArray 132)) (by rw [← eY]; exact At.new _ _ _) (Below.alloc (Below.refl _ _) (Nat.le_refl _) _)
  rw [eY]
  clear eY
  generalize World.alloc u2 _ = u4 at *
  have H5 := WirS.hide (hbY)
  clear H3
  clear hbY
  refine sV (.pointer (some ⟨u4.heap.size, 0, none⟩)) (u4.alloc (.cells zs.toArray 132)) (by kernel_rfl) (by kernel_rfl) ?_
  simp only [Act.put, List.setIfInBounds_toArray, List.set_cons_succ, List.set_cons_zero]
  obtain ⟨Z, eZ⟩ : ∃ A, u4.heap.size = A := ⟨_, rfl⟩
  have hbZ := bag_box (T := 132) (cs := zs) (X := Z) H5.out eZ.symm (w' := u4.alloc (.cells zs.toArray 132)) (by rw [← eZ]; exact At.new _ _ _) (Below.alloc (Below.refl _ _) (Nat.le_refl _) _)
  rw [eZ]
  clear eZ
  generalize World.alloc u4 _ = u6 at *
  have H7 := WirS.hide (hbZ)
  clear H5
  clear hbZ
  go_upto_region 1 with fail
  refine wp_region_lit ?_
  refine sV (.agg #[.int .u8 0, .int .u8 0, .int .u8 0, .int .u8 1]) (u6) (by kernel_rfl) (by kernel_rfl) ?_
  simp only [Act.put, List.setIfInBounds_toArray, List.set_cons_succ, List.set_cons_zero]
  refine sV (sa.val) (u6) (by kernel_rfl) (by kernel_rfl) ?_
  simp only [Act.put, List.setIfInBounds_toArray, List.set_cons_succ, List.set_cons_zero]
  refine sV (.agg #[.int .u8 0, .int .u8 0, .int .u8 0, .int .u8 1]) (u6) (by kernel_rfl) (by kernel_rfl) ?_
  simp only [Act.put, List.setIfInBounds_toArray, List.set_cons_succ, List.set_cons_zero]
  refine sV (sb.val) (u6) (by kernel_rfl) (by kernel_rfl) ?_
  simp only [Act.put, List.setIfInBounds_toArray, List.set_cons_succ, List.set_cons_zero]
  refine sV (.agg #[.int .u8 0, .int .u8 0, .int .u8 0, .int .u8 2]) (u6) (by kernel_rfl) (by kernel_rfl) ?_
  simp only [Act.put, List.setIfInBounds_toArray, List.set_cons_succ, List.set_cons_zero]
  refine sV (sc.val) (u6) (by kernel_rfl) (by kernel_rfl) ?_
  simp only [Act.put, List.setIfInBounds_toArray, List.set_cons_succ, List.set_cons_zero]
  have H8 := WirS.hide (H7.out.perm (show [box 132 Z zs, box 132 Y zs, box 132 X zs].Perm [box 132 X zs, box 132 Z zs, box 132 Y zs] from ((List.perm_middle (l₁ := [box 132 Z zs, box 132 Y zs])).trans (.cons _ ((List.perm_middle (l₁ := [])).trans (.cons _ ((List.perm_middle (l₁ := [])).trans (.cons _ (.refl _)))))))))
  clear H7
  refine stepStore (by rfl) _ _ _ (by rfl) X sa.cells (by kernel_rfl) (by kernel_rfl) H8.out.head 37 (by kernel_rfl) (by rfl) (by rfl) (one_sg sa) ?_
  simp only [Act.put]
  have H10 := WirS.hide (bag_row H8.out sa.cells)
  clear H8
  generalize World.setRow u6 X _ = u9 at *
  have H11 := WirS.hide (H10.out.perm (show [box 132 X sa.cells, box 132 Z zs, box 132 Y zs].Perm [box 132 Y zs, box 132 X sa.cells, box 132 Z zs] from ((List.perm_middle (l₁ := [box 132 X sa.cells, box 132 Z zs])).trans (.cons _ ((List.perm_middle (l₁ := [])).trans (.cons _ ((List.perm_middle (l₁ := [])).trans (.cons _ (.refl _)))))))))
  clear H10
  refine stepStore (by rfl) _ _ _ (by rfl) Y sb.cells (by kernel_rfl) (by kernel_rfl) H11.out.head 37 (by kernel_rfl) (by rfl) (by rfl) (one_sg sb) ?_
  simp only [Act.put]
  have H13 := WirS.hide (bag_row H11.out sb.cells)
  clear H11
  generalize World.setRow u9 Y _ = u12 at *
  have H14 := WirS.hide (H13.out.perm (show [box 132 Y sb.cells, box 132 X sa.cells, box 132 Z zs].Perm [box 132 Z zs, box 132 Y sb.cells, box 132 X sa.cells] from ((List.perm_middle (l₁ := [box 132 Y sb.cells, box 132 X sa.cells])).trans (.cons _ ((List.perm_middle (l₁ := [])).trans (.cons _ ((List.perm_middle (l₁ := [])).trans (.cons _ (.refl _)))))))))
  clear H13
  refine stepStore (by rfl) _ _ _ (by rfl) Z sc.cells (by kernel_rfl) (by kernel_rfl) H14.out.head 37 (by kernel_rfl) (by rfl) (by rfl) (one_sg sc) ?_
  simp only [Act.put]
  have H16 := WirS.hide (bag_row H14.out sc.cells)
  clear H14
  generalize World.setRow u12 Z _ = u15 at *
  go_wp2_with fail
  exact bodyPost_ret (ret3 (show At _ X 132 sa.cells from (H16.out.all (box 132 X sa.cells) (by simp)).1) (show At _ Y 132 sb.cells from (H16.out.all (box 132 Y sb.cells) (by simp)).1) (show At _ Z 132 sc.cells from (H16.out.all (box 132 Z sc.cells) (by simp)).1) Try.results176 _ (by rfl) (by rfl) (by rfl) _ 37 Try.underlying132 rfl (by kernel_rfl) rfl rfl rfl) rfl ⟨rfl, H16.out.low⟩
set_option maxRecDepth 20000 in
set_option maxHeartbeats 16000000 in
theorem awake_any (w : World) : Calls Try.prog 84 #[] w fun e w' => e = .returned (.bool true) ∧ Below w.heap.size w w' := by
  have HN := WirS.hide (fun U => new_ok U 2 (by decide) (by decide))
  have H17 := WirS.hide (Bag.nil (Below.refl w.heap.size w))
  go_enter Try.func84, Try.ntmps84
  go_upto_region 1 with fail
  refine wp_region_lit ?_
  refine sC (R := fun w' => Below w.heap.size w w') (v := .tuple #[sa.val, sb.val, sc.val]) (by kernel_rfl) (by kernel_rfl) (three_any w) ?_
  rintro u18 hb
  simp only [Act.put, List.setIfInBounds_toArray, List.set_cons_succ, List.set_cons_zero]
  have H19 := WirS.hide (H17.out.more hb)
  clear H17
  clear hb
  refine sV (.tuple #[sa.val, sb.val, sc.val]) (u18) (by kernel_rfl) (by kernel_rfl) ?_
  simp only [Act.put, List.setIfInBounds_toArray, List.set_cons_succ, List.set_cons_zero]
  refine sV (sa.val) (u18) (by kernel_rfl) (by kernel_rfl) ?_
  simp only [Act.put, List.setIfInBounds_toArray, List.set_cons_succ, List.set_cons_zero]
  refine sV (sb.val) (u18) (by kernel_rfl) (by kernel_rfl) ?_
  simp only [Act.put, List.setIfInBounds_toArray, List.set_cons_succ, List.set_cons_zero]
  refine sV (sc.val) (u18) (by kernel_rfl) (by kernel_rfl) ?_
  simp only [Act.put, List.setIfInBounds_toArray, List.set_cons_succ, List.set_cons_zero]
  refine sV (.pointer (some ⟨u18.heap.size, 0, none⟩)) (u18.alloc (.cells zs.toArray 132)) (by kernel_rfl) (by kernel_rfl) ?_
  simp only [Act.put, List.setIfInBounds_toArray, List.set_cons_succ, List.set_cons_zero]
  obtain ⟨A, eA⟩ : ∃ A, u18.heap.size = A := ⟨_, rfl⟩
  have hbA := bag_box (T := 132) (cs := zs) (X := A) H19.out eA.symm (w' := u18.alloc (.cells zs.toArray 132)) (by rw [← eA]; exact At.new _ _ _) (Below.alloc (Below.refl _ _) (Nat.le_refl _) _)
  rw [eA]
  clear eA
  generalize World.alloc u18 _ = u20 at *
  have H21 := WirS.hide (hbA)
  clear H19
  clear hbA
  refine sV (.pointer (some ⟨u20.heap.size, 0, none⟩)) (u20.alloc (.cells zs.toArray 132)) (by kernel_rfl) (by kernel_rfl) ?_
  simp only [Act.put, List.setIfInBounds_toArray, List.set_cons_succ, List.set_cons_zero]
  obtain ⟨B, eB⟩ : ∃ A, u20.heap.size = A := ⟨_, rfl⟩
  have hbB := bag_box (T := 132) (cs := zs) (X := B) H21.out eB.symm (w' := u20.alloc (.cells zs.toArray 132)) (by rw [← eB]; exact At.new _ _ _) (Below.alloc (Below.refl _ _) (Nat.le_refl _) _)
  rw [eB]
  clear eB
  generalize World.alloc u20 _ = u22 at *
  have H23 := WirS.hide (hbB)
  clear H21
  clear hbB
  refine sV (.pointer (some ⟨u22.heap.size, 0, none⟩)) (u22.alloc (.cells zs.toArray 132)) (by kernel_rfl) (by kernel_rfl) ?_
  simp only [Act.put, List.setIfInBounds_toArray, List.set_cons_succ, List.set_cons_zero]
  obtain ⟨C, eC⟩ : ∃ A, u22.heap.size = A := ⟨_, rfl⟩
  have hbC := bag_box (T := 132) (cs := zs) (X := C) H23.out eC.symm (w' := u22.alloc (.cells zs.toArray 132)) (by rw [← eC]; exact At.new _ _ _) (Below.alloc (Below.refl _ _) (Nat.le_refl _) _)
  rw [eC]
  clear eC
  generalize World.alloc u22 _ = u24 at *
  have H25 := WirS.hide (hbC)
  clear H23
  clear hbC
  have H26 := WirS.hide (H25.out.perm (show [box 132 C zs, box 132 B zs, box 132 A zs].Perm [box 132 A zs, box 132 C zs, box 132 B zs] from ((List.perm_middle (l₁ := [box 132 C zs, box 132 B zs])).trans (.cons _ ((List.perm_middle (l₁ := [])).trans (.cons _ ((List.perm_middle (l₁ := [])).trans (.cons _ (.refl _)))))))))
  clear H25
  refine stepStore (by rfl) _ _ _ (by rfl) A sa.cells (by kernel_rfl) (by kernel_rfl) H26.out.head 37 (by kernel_rfl) (by rfl) (by rfl) (one_sg sa) ?_
  simp only [Act.put]
  have H28 := WirS.hide (bag_row H26.out sa.cells)
  clear H26
  generalize World.setRow u24 A _ = u27 at *
  have H29 := WirS.hide (H28.out.perm (show [box 132 A sa.cells, box 132 C zs, box 132 B zs].Perm [box 132 B zs, box 132 A sa.cells, box 132 C zs] from ((List.perm_middle (l₁ := [box 132 A sa.cells, box 132 C zs])).trans (.cons _ ((List.perm_middle (l₁ := [])).trans (.cons _ ((List.perm_middle (l₁ := [])).trans (.cons _ (.refl _)))))))))
  clear H28
  refine stepStore (by rfl) _ _ _ (by rfl) B sb.cells (by kernel_rfl) (by kernel_rfl) H29.out.head 37 (by kernel_rfl) (by rfl) (by rfl) (one_sg sb) ?_
  simp only [Act.put]
  have H31 := WirS.hide (bag_row H29.out sb.cells)
  clear H29
  generalize World.setRow u27 B _ = u30 at *
  have H32 := WirS.hide (H31.out.perm (show [box 132 B sb.cells, box 132 A sa.cells, box 132 C zs].Perm [box 132 C zs, box 132 B sb.cells, box 132 A sa.cells] from ((List.perm_middle (l₁ := [box 132 B sb.cells, box 132 A sa.cells])).trans (.cons _ ((List.perm_middle (l₁ := [])).trans (.cons _ ((List.perm_middle (l₁ := [])).trans (.cons _ (.refl _)))))))))
  clear H31
  refine stepStore (by rfl) _ _ _ (by rfl) C sc.cells (by kernel_rfl) (by kernel_rfl) H32.out.head 37 (by kernel_rfl) (by rfl) (by rfl) (one_sg sc) ?_
  simp only [Act.put]
  have H34 := WirS.hide (bag_row H32.out sc.cells)
  clear H32
  generalize World.setRow u30 C _ = u33 at *
  go_upto_region 2 with fail
  refine wp_region_lit ?_
  refine sCx (by kernel_rfl) (by kernel_rfl) (HN.out u33) ?_
  rintro e u35 ⟨X, b, rfl, ht, hx1, hb1, hb⟩
  refine ⟨_, rfl, ?_⟩
  simp only [Act.put, List.setIfInBounds_toArray, List.set_cons_succ, List.set_cons_zero]
  have H36 := WirS.hide (Bag.new (o := tab X b 2 []) H34.out hb ht (fun q hq => by rcases hq with rfl | rfl <;> assumption))
  clear H34
  clear ht hx1 hb1 hb HN
  refine sV (.tuple #[.pointer (some ⟨X, 0, none⟩), .int .i64 0]) (u35) (by kernel_rfl) (by kernel_rfl) ?_
  simp only [Act.put, List.setIfInBounds_toArray, List.set_cons_succ, List.set_cons_zero]
  refine sV (.pointer (some ⟨X, 0, none⟩)) (u35) (by kernel_rfl) (by kernel_rfl) ?_
  simp only [Act.put, List.setIfInBounds_toArray, List.set_cons_succ, List.set_cons_zero]
  refine sV (.int .i64 0) (u35) (by kernel_rfl) (by kernel_rfl) ?_
  simp only [Act.put, List.setIfInBounds_toArray, List.set_cons_succ, List.set_cons_zero]
  go_upto_region 3 with fail
  refine wp_region_lit ?_
  refine sV (.int .i64 0) (u35) (by kernel_rfl) (by kernel_rfl) ?_
  simp only [Act.put, List.setIfInBounds_toArray, List.set_cons_succ, List.set_cons_zero]
  refine sV (.bool true) (u35) (by kernel_rfl) (by kernel_rfl) ?_
  simp only [Act.put, List.setIfInBounds_toArray, List.set_cons_succ, List.set_cons_zero]
  refine sV (.bool true) (u35) (by kernel_rfl) (by kernel_rfl) ?_
  simp only [Act.put, List.setIfInBounds_toArray, List.set_cons_succ, List.set_cons_zero]
  refine sV (.pointer (some ⟨X, 0, none⟩)) (u35) (by kernel_rfl) (by kernel_rfl) ?_
  simp only [Act.put, List.setIfInBounds_toArray, List.set_cons_succ, List.set_cons_zero]
  refine sV (.bool true) (u35) (by kernel_rfl) (by kernel_rfl) ?_
  simp only [Act.put, List.setIfInBounds_toArray, List.set_cons_succ, List.set_cons_zero]
  refine sV (.bool true) (u35) (by kernel_rfl) (by kernel_rfl) ?_
  simp only [Act.put, List.setIfInBounds_toArray, List.set_cons_succ, List.set_cons_zero]
  refine sV (.bool true) (u35) (by kernel_rfl) (by kernel_rfl) ?_
  simp only [Act.put, List.setIfInBounds_toArray, List.set_cons_succ, List.set_cons_zero]
  refine sV (.pointer (some ⟨X, 0, none⟩)) (u35) (by kernel_rfl) (by kernel_rfl) ?_
  simp only [Act.put, List.setIfInBounds_toArray, List.set_cons_succ, List.set_cons_zero]
  refine sL (by kernel_rfl) _ _ (by rfl) _ (by kernel_rfl) (H36.out.all (box 132 A sa.cells) (by simp)).1 _ _ Try.underlying132 rfl (by kernel_rfl) (by rfl) ?_
  simp only [Act.put, List.setIfInBounds_toArray, List.set_cons_succ, List.set_cons_zero]
  refine sC (R := fun w' => Tab w' X b 2 [sa] ∧ Fr (fun k => k = b) u35 w') (v := .int .i64 0) (by kernel_rfl) (by kernel_rfl) (add_in u35 X b 2 [] sa oka (show Tab u35 X b 2 [] from H36.out.head) (by decide) (by decide) (by decide)) ?_
  rintro u37 ⟨ht, hf⟩
  simp only [Act.put, List.setIfInBounds_toArray, List.set_cons_succ, List.set_cons_zero]
  have H38 := WirS.hide (H36.out.act (o' := tab X b 2 [sa]) (hf.mono (fun i _ e => .inr e)) ht (fun _ h => .inl h))
  clear H36
  clear ht hf
  refine sV (.bool true) (u37) (by kernel_rfl) (by kernel_rfl) ?_
  simp only [Act.put, List.setIfInBounds_toArray, List.set_cons_succ, List.set_cons_zero]
  refine sV (.bool true) (u37) (by kernel_rfl) (by kernel_rfl) ?_
  simp only [Act.put, List.setIfInBounds_toArray, List.set_cons_succ, List.set_cons_zero]
  refine sV (.bool true) (u37) (by kernel_rfl) (by kernel_rfl) ?_
  simp only [Act.put, List.setIfInBounds_toArray, List.set_cons_succ, List.set_cons_zero]
  refine sV (.pointer (some ⟨X, 0, none⟩)) (u37) (by kernel_rfl) (by kernel_rfl) ?_
  simp only [Act.put, List.setIfInBounds_toArray, List.set_cons_succ, List.set_cons_zero]
  refine sL (by kernel_rfl) _ _ (by rfl) _ (by kernel_rfl) (H38.out.all (box 132 A sa.cells) (by simp)).1 _ _ Try.underlying132 rfl (by kernel_rfl) (by rfl) ?_
  simp only [Act.put, List.setIfInBounds_toArray, List.set_cons_succ, List.set_cons_zero]
  refine sC (R := fun w' => Below u37.heap.size u37 w') (v := .int .i64 8) (by kernel_rfl) (by kernel_rfl) (add_has u37 X b 2 [sa] sa oka (show Tab u37 X b 2 [sa] from H38.out.head) (by decide)) ?_
  rintro u39 hb
  simp only [Act.put, List.setIfInBounds_toArray, List.set_cons_succ, List.set_cons_zero]
  have H40 := WirS.hide (H38.out.more hb)
  clear H38
  clear hb
  refine sV (.bool true) (u39) (by kernel_rfl) (by kernel_rfl) ?_
  simp only [Act.put, List.setIfInBounds_toArray, List.set_cons_succ, List.set_cons_zero]
  refine sV (.bool true) (u39) (by kernel_rfl) (by kernel_rfl) ?_
  simp only [Act.put, List.setIfInBounds_toArray, List.set_cons_succ, List.set_cons_zero]
  refine sV (.bool true) (u39) (by kernel_rfl) (by kernel_rfl) ?_
  simp only [Act.put, List.setIfInBounds_toArray, List.set_cons_succ, List.set_cons_zero]
  refine sV (.pointer (some ⟨X, 0, none⟩)) (u39) (by kernel_rfl) (by kernel_rfl) ?_
  simp only [Act.put, List.setIfInBounds_toArray, List.set_cons_succ, List.set_cons_zero]
  refine sL (by kernel_rfl) _ _ (by rfl) _ (by kernel_rfl) (H40.out.all (box 132 B sb.cells) (by simp)).1 _ _ Try.underlying132 rfl (by kernel_rfl) (by rfl) ?_
  simp only [Act.put, List.setIfInBounds_toArray, List.set_cons_succ, List.set_cons_zero]
  refine sC (R := fun w' => Tab w' X b 2 [sa, sb] ∧ Fr (fun k => k = b) u39 w') (v := .int .i64 0) (by kernel_rfl) (by kernel_rfl) (add_in u39 X b 2 [sa] sb okb (show Tab u39 X b 2 [sa] from H40.out.head) (by decide) (by decide) (by decide)) ?_
  rintro u41 ⟨ht, hf⟩
  simp only [Act.put, List.setIfInBounds_toArray, List.set_cons_succ, List.set_cons_zero]
  have H42 := WirS.hide (H40.out.act (o' := tab X b 2 [sa, sb]) (hf.mono (fun i _ e => .inr e)) ht (fun _ h => .inl h))
  clear H40
  clear ht hf
  refine sV (.bool true) (u41) (by kernel_rfl) (by kernel_rfl) ?_
  simp only [Act.put, List.setIfInBounds_toArray, List.set_cons_succ, List.set_cons_zero]
  refine sV (.bool true) (u41) (by kernel_rfl) (by kernel_rfl) ?_
  simp only [Act.put, List.setIfInBounds_toArray, List.set_cons_succ, List.set_cons_zero]
  refine sV (.bool true) (u41) (by kernel_rfl) (by kernel_rfl) ?_
  simp only [Act.put, List.setIfInBounds_toArray, List.set_cons_succ, List.set_cons_zero]
  refine sV (.pointer (some ⟨X, 0, none⟩)) (u41) (by kernel_rfl) (by kernel_rfl) ?_
  simp only [Act.put, List.setIfInBounds_toArray, List.set_cons_succ, List.set_cons_zero]
  refine sL (by kernel_rfl) _ _ (by rfl) _ (by kernel_rfl) (H42.out.all (box 132 C sc.cells) (by simp)).1 _ _ Try.underlying132 rfl (by kernel_rfl) (by rfl) ?_
  simp only [Act.put, List.setIfInBounds_toArray, List.set_cons_succ, List.set_cons_zero]
  refine sC (R := fun w' => Below u41.heap.size u41 w') (v := .int .i64 7) (by kernel_rfl) (by kernel_rfl) (add_full u41 X b 2 [sa, sb] sc okc (show Tab u41 X b 2 [sa, sb] from H42.out.head) (by decide) (by decide)) ?_
  rintro u43 hb
  simp only [Act.put, List.setIfInBounds_toArray, List.set_cons_succ, List.set_cons_zero]
  have H44 := WirS.hide (H42.out.more hb)
  clear H42
  clear hb
  refine sV (.bool true) (u43) (by kernel_rfl) (by kernel_rfl) ?_
  simp only [Act.put, List.setIfInBounds_toArray, List.set_cons_succ, List.set_cons_zero]
  refine sV (.bool true) (u43) (by kernel_rfl) (by kernel_rfl) ?_
  simp only [Act.put, List.setIfInBounds_toArray, List.set_cons_succ, List.set_cons_zero]
  refine sV (.bool true) (u43) (by kernel_rfl) (by kernel_rfl) ?_
  simp only [Act.put, List.setIfInBounds_toArray, List.set_cons_succ, List.set_cons_zero]
  refine sV (.pointer (some ⟨X, 0, none⟩)) (u43) (by kernel_rfl) (by kernel_rfl) ?_
  simp only [Act.put, List.setIfInBounds_toArray, List.set_cons_succ, List.set_cons_zero]
  refine sL (by kernel_rfl) _ _ (by rfl) _ (by kernel_rfl) (H44.out.all (box 132 B sb.cells) (by simp)).1 _ _ Try.underlying132 rfl (by kernel_rfl) (by rfl) ?_
  simp only [Act.put, List.setIfInBounds_toArray, List.set_cons_succ, List.set_cons_zero]
  refine sC (R := fun w' => Below u43.heap.size u43 w') (v := .bool true) (by kernel_rfl) (by kernel_rfl) (has_ok u43 X b 2 [sa, sb] sb okb (show Tab u43 X b 2 [sa, sb] from (H44.out.all (tab X b 2 [sa, sb]) (by simp)).1)) ?_
  rintro u45 hb
  simp only [Act.put, List.setIfInBounds_toArray, List.set_cons_succ, List.set_cons_zero]
  have H46 := WirS.hide (H44.out.more hb)
  clear H44
  clear hb
  refine sV (.bool true) (u45) (by kernel_rfl) (by kernel_rfl) ?_
  simp only [Act.put, List.setIfInBounds_toArray, List.set_cons_succ, List.set_cons_zero]
  refine sV (.bool true) (u45) (by kernel_rfl) (by kernel_rfl) ?_
  simp only [Act.put, List.setIfInBounds_toArray, List.set_cons_succ, List.set_cons_zero]
  refine sV (.pointer (some ⟨X, 0, none⟩)) (u45) (by kernel_rfl) (by kernel_rfl) ?_
  simp only [Act.put, List.setIfInBounds_toArray, List.set_cons_succ, List.set_cons_zero]
  refine sL (by kernel_rfl) _ _ (by rfl) _ (by kernel_rfl) (H46.out.all (box 132 C sc.cells) (by simp)).1 _ _ Try.underlying132 rfl (by kernel_rfl) (by rfl) ?_
  simp only [Act.put, List.setIfInBounds_toArray, List.set_cons_succ, List.set_cons_zero]
  refine sC (R := fun w' => Below u45.heap.size u45 w') (v := .bool false) (by kernel_rfl) (by kernel_rfl) (has_ok u45 X b 2 [sa, sb] sc okc (show Tab u45 X b 2 [sa, sb] from (H46.out.all (tab X b 2 [sa, sb]) (by simp)).1)) ?_
  rintro u47 hb
  simp only [Act.put, List.setIfInBounds_toArray, List.set_cons_succ, List.set_cons_zero]
  have H48 := WirS.hide (H46.out.more hb)
  clear H46
  clear hb
  refine sV (.bool true) (u47) (by kernel_rfl) (by kernel_rfl) ?_
  simp only [Act.put, List.setIfInBounds_toArray, List.set_cons_succ, List.set_cons_zero]
  refine sV (.bool true) (u47) (by kernel_rfl) (by kernel_rfl) ?_
  simp only [Act.put, List.setIfInBounds_toArray, List.set_cons_succ, List.set_cons_zero]
  refine sV (.bool true) (u47) (by kernel_rfl) (by kernel_rfl) ?_
  simp only [Act.put, List.setIfInBounds_toArray, List.set_cons_succ, List.set_cons_zero]
  refine sV (.pointer (some ⟨X, 0, none⟩)) (u47) (by kernel_rfl) (by kernel_rfl) ?_
  simp only [Act.put, List.setIfInBounds_toArray, List.set_cons_succ, List.set_cons_zero]
  refine sC (R := fun w' => u47 = w') (v := .int .i64 2) (by kernel_rfl) (by kernel_rfl) (len_ok u47 X b 2 [sa, sb] (show Tab u47 X b 2 [sa, sb] from (H48.out.all (tab X b 2 [sa, sb]) (by simp)).1)) ?_
  rintro _ rfl
  simp only [Act.put, List.setIfInBounds_toArray, List.set_cons_succ, List.set_cons_zero]
  refine sV (.bool true) (u47) (by kernel_rfl) (by kernel_rfl) ?_
  simp only [Act.put, List.setIfInBounds_toArray, List.set_cons_succ, List.set_cons_zero]
  refine sV (.bool true) (u47) (by kernel_rfl) (by kernel_rfl) ?_
  simp only [Act.put, List.setIfInBounds_toArray, List.set_cons_succ, List.set_cons_zero]
  go_wp2_with fail
  go_ret
  exact ⟨rfl, H48.out.low⟩
end SgG
end Go.Proofs.Ythcemghamdmjmaa
