/-
  SigsNone walked.
-/
import Derived.Test.YthcemghamdmjmaaSgG
import Derived.Test.YthcemghamdmjmaaSgI
namespace Go.Proofs.Ythcemghamdmjmaa
namespace SgN
open Go.RowKit
open BlkM WirM WirS SgA SgB SgC SgD SgE SgF SgG SgI
open WirX (Thg Bag own)
open WirAA (box bag_box)
open WirAB (sCx)

def zt : List Value := [.pointer none, .int .i64 0, .map none]
theorem wpList_load_mid' {P : Program} {ops : Array Oper} {rest : List Oper} {o : Oper} {a : Act} {w : World} {Q : Exit → Act → World → Prop} (hw : Region.wanted o (yielded ops a.tmps) = true) (ty : TypeId) (x : Operand) (ho : o.op = .load ty x) (b off : Nat) (hx : a.eval x = .pointer (some ⟨b, off, none⟩)) (cs : List Value) (d : TypeDesc) (hc : w.rangeAt b off cs)
    (hu : P.underlying ty = some d) (hd : d.isRow = true) (hi : (P.info? ty).map (·.size) = some cs.length) (h : wpList P ops Q rest (a.put o.dst (.agg cs.toArray)) w) : wpList P ops Q (o :: rest) a w :=
  stepW hw fun _ hK => wp_load_mid ty x ho b off hx cs d hc hu hd hi (hK _ _ h)
theorem range_h {w : World} {B : Nat} {x : Sg} (hx : x.ok) (h : At w B 132 x.cells) : w.rangeAt B 4 (b8 x.h) := fun j v hj => by
  have hj2 : j < (b8 x.h).length := (List.getElem?_eq_some_iff.1 hj).1
  have h4 : (b8 x.k).length = 4 := by rw [b8_len, hx.k4]
  rw [h.cell]
  unfold Sg.cells
  rw [List.getElem?_append_right (by omega), h4, Nat.add_sub_cancel_left, List.getElem?_append_left hj2]
  exact hj
set_option maxRecDepth 20000 in
set_option maxHeartbeats 16000000 in
theorem none_any (w : World) (x : Sg) (hx : x.ok) : Calls Try.prog 17 #[x.val] w fun e w' => e = .returned (.bool true) ∧ Below w.heap.size w w' := by
  have HX := WirS.hide hx
  clear hx
  have H1 := WirS.hide (Bag.nil (Below.refl w.heap.size w))
  go_enter Try.func17, Try.ntmps17
  go_upto_region 0 with fail
  refine wp_region_lit ?_
  refine sV (.pointer (some ⟨w.heap.size, 0, none⟩)) (w.alloc (.cells x.cells.toArray 132)) (by kernel_rfl) (by kernel_rfl) ?_
  simp only [Act.put, List.setIfInBounds_toArray, List.set_cons_succ, List.set_cons_zero]
  obtain ⟨B, eB⟩ : ∃ A, w.heap.size = A := ⟨_, rfl⟩
  have hbB := bag_box (T := 132) (cs := x.cells) (X := B) H1.out eB.symm (w' := w.alloc (.cells x.cells.toArray 132)) (by rw [← eB]; exact At.new _ _ _) (Below.alloc (Below.refl _ _) (Nat.le_refl _) _)
  rw [eB]
  clear eB
  generalize World.alloc w _ = u2 at *
  have H3 := WirS.hide (hbB)
  clear H1
  clear hbB
  go_upto_region 1 with fail
  refine wp_region_lit ?_
  refine sV (.agg zt.toArray) (u2) (by kernel_rfl) (by kernel_rfl) ?_
  simp only [Act.put, List.setIfInBounds_toArray, List.set_cons_succ, List.set_cons_zero]
  refine sV (.pointer (some ⟨u2.heap.size, 0, none⟩)) (u2.alloc (.cells zt.toArray 137)) (by kernel_rfl) (by kernel_rfl) ?_
  simp only [Act.put, List.setIfInBounds_toArray, List.set_cons_succ, List.set_cons_zero]
  obtain ⟨Z, eZ⟩ : ∃ A, u2.heap.size = A := ⟨_, rfl⟩
  have hbZ := bag_box (T := 137) (cs := zt) (X := Z) H3.out eZ.symm (w' := u2.alloc (.cells zt.toArray 137)) (by rw [← eZ]; exact At.new _ _ _) (Below.alloc (Below.refl _ _) (Nat.le_refl _) _)
  rw [eZ]
  clear eZ
  generalize World.alloc u2 _ = u4 at *
  have H5 := WirS.hide (hbZ)
  clear H3
  clear hbZ
  refine sV (.slice (some ⟨u4.heap.size, 0, none⟩) 2 2) (u4.alloc (.cells ([.pointer none, .pointer (some ⟨Z, 0, none⟩)] : List Value).toArray 124)) (by kernel_rfl) (by kernel_rfl) ?_
  simp only [Act.put, List.setIfInBounds_toArray, List.set_cons_succ, List.set_cons_zero]
  obtain ⟨L, eL⟩ : ∃ A, u4.heap.size = A := ⟨_, rfl⟩
  have hbL := bag_box (T := 124) (cs := [.pointer none, .pointer (some ⟨Z, 0, none⟩)]) (X := L) H5.out eL.symm (w' := u4.alloc (.cells [.pointer none, .pointer (some ⟨Z, 0, none⟩)].toArray 124)) (by rw [← eL]; exact At.new _ _ _) (Below.alloc (Below.refl _ _) (Nat.le_refl _) _)
  rw [eL]
  clear eL
  generalize World.alloc u4 _ = u6 at *
  have H7 := WirS.hide (hbL)
  clear H5
  clear hbL
  go_wp2_with fail
  go_loopw [4] (fun i wr => ∃ k : Nat, k ≤ 2 ∧ i = .int .i64 (k : Int) ∧ Bag w wr [box 124 L [.pointer none, .pointer (some ⟨Z, 0, none⟩)], box 137 Z zt, box 132 B x.cells]) (fun i _ => 2 - (intOf i).toNat)
  case atStart => exact ⟨0, by omega, rfl, H7.out⟩
  case round =>
    clear H7
    obtain ⟨k, hk, rfl, hB⟩ := hrel
    have HB0 := WirS.hide hB
    clear hB
    obtain rfl | rfl | rfl : k = 0 ∨ k = 1 ∨ k = 2 := by omega
    · have hc : wr.cell? ⟨L, 0, none⟩ = some (.pointer none) := (show At wr L 124 [.pointer none, .pointer (some ⟨Z, 0, none⟩)] from (HB0.out.all (box 124 L [.pointer none, .pointer (some ⟨Z, 0, none⟩)]) (by simp)).1).cell 0
      go_upto_region 6 with fail
      clear hc
      refine wp_region_lit ?_
      refine sV (.pointer none) (wr) (by kernel_rfl) (by kernel_rfl) ?_
      simp only [Act.put, List.setIfInBounds_toArray, List.set_cons_succ, List.set_cons_zero]
      refine sC (R := fun w' => wr = w') (v := .tuple #[.slice none 0 0, .int .i64 1]) (by kernel_rfl) (by kernel_rfl) (encode_bad wr none (.inl rfl)) ?_
      rintro _ rfl
      simp only [Act.put, List.setIfInBounds_toArray, List.set_cons_succ, List.set_cons_zero]
      refine sV (.tuple #[.slice none 0 0, .int .i64 1]) (wr) (by kernel_rfl) (by kernel_rfl) ?_
      simp only [Act.put, List.setIfInBounds_toArray, List.set_cons_succ, List.set_cons_zero]
      refine sV (.slice none 0 0) (wr) (by kernel_rfl) (by kernel_rfl) ?_
      simp only [Act.put, List.setIfInBounds_toArray, List.set_cons_succ, List.set_cons_zero]
      refine sV (.int .i64 1) (wr) (by kernel_rfl) (by kernel_rfl) ?_
      simp only [Act.put, List.setIfInBounds_toArray, List.set_cons_succ, List.set_cons_zero]
      go_upto_region 7 with fail
      refine wp_region_lit ?_
      refine sV (.pointer none) (wr) (by kernel_rfl) (by kernel_rfl) ?_
      simp only [Act.put, List.setIfInBounds_toArray, List.set_cons_succ, List.set_cons_zero]
      refine sL (by kernel_rfl) _ _ (by rfl) _ (by kernel_rfl) (HB0.out.all (box 132 B x.cells) (by simp)).1 _ _ Try.underlying132 rfl (by kernel_rfl) (by rw [Sg.len HX.out]) ?_
      simp only [Act.put, List.setIfInBounds_toArray, List.set_cons_succ, List.set_cons_zero]
      refine sC (R := fun w' => Below wr.heap.size wr w') (v := .int .i64 1) (by kernel_rfl) (by kernel_rfl) (add_bad wr none x (.inl rfl)) ?_
      rintro u8 hb
      simp only [Act.put, List.setIfInBounds_toArray, List.set_cons_succ, List.set_cons_zero]
      have H9 := WirS.hide (HB0.out.more hb)
      clear HB0
      clear hb
      refine sV (.bool false) (u8) (by kernel_rfl) (by kernel_rfl) ?_
      simp only [Act.put, List.setIfInBounds_toArray, List.set_cons_succ, List.set_cons_zero]
      refine sV (.bool false) (u8) (by kernel_rfl) (by kernel_rfl) ?_
      simp only [Act.put, List.setIfInBounds_toArray, List.set_cons_succ, List.set_cons_zero]
      refine sV (.pointer none) (u8) (by kernel_rfl) (by kernel_rfl) ?_
      simp only [Act.put, List.setIfInBounds_toArray, List.set_cons_succ, List.set_cons_zero]
      refine sL (by kernel_rfl) _ _ (by rfl) _ (by kernel_rfl) (H9.out.all (box 132 B x.cells) (by simp)).1 _ _ Try.underlying132 rfl (by kernel_rfl) (by rw [Sg.len HX.out]) ?_
      simp only [Act.put, List.setIfInBounds_toArray, List.set_cons_succ, List.set_cons_zero]
      refine sC (R := fun w' => Below u8.heap.size u8 w') (v := .bool false) (by kernel_rfl) (by kernel_rfl) (has_bad u8 none x HX.out (.inl rfl)) ?_
      rintro u10 hb
      simp only [Act.put, List.setIfInBounds_toArray, List.set_cons_succ, List.set_cons_zero]
      have H11 := WirS.hide (H9.out.more hb)
      clear H9
      clear hb
      refine sV (.bool false) (u10) (by kernel_rfl) (by kernel_rfl) ?_
      simp only [Act.put, List.setIfInBounds_toArray, List.set_cons_succ, List.set_cons_zero]
      refine sV (.bool false) (u10) (by kernel_rfl) (by kernel_rfl) ?_
      simp only [Act.put, List.setIfInBounds_toArray, List.set_cons_succ, List.set_cons_zero]
      refine sV (.pointer none) (u10) (by kernel_rfl) (by kernel_rfl) ?_
      simp only [Act.put, List.setIfInBounds_toArray, List.set_cons_succ, List.set_cons_zero]
      refine sV (.pointer (some ⟨B, 4, none⟩)) (u10) (by kernel_rfl) (by kernel_rfl) ?_
      simp only [Act.put, List.setIfInBounds_toArray, List.set_cons_succ, List.set_cons_zero]
      refine wpList_load_mid' (by kernel_rfl) _ _ (by rfl) B 4 (by kernel_rfl) (b8 x.h) _ (range_h HX.out (show At u10 B 132 x.cells from (H11.out.all (box 132 B x.cells) (by simp)).1)) Try.underlying34 (by rfl) (by rw [b8_len, HX.out.h32]; kernel_rfl) ?_
      simp only [Act.put, List.setIfInBounds_toArray, List.set_cons_succ, List.set_cons_zero]
      refine sC (R := fun w' => Below u10.heap.size u10 w') (v := .slice none 0 0) (by kernel_rfl) (by kernel_rfl) (who_bad u10 none x.h HX.out.h32 (.inl rfl)) ?_
      rintro u12 hb
      simp only [Act.put, List.setIfInBounds_toArray, List.set_cons_succ, List.set_cons_zero]
      have H13 := WirS.hide (H11.out.more hb)
      clear H11
      clear hb
      refine sV (.int .i64 0) (u12) (by kernel_rfl) (by kernel_rfl) ?_
      simp only [Act.put, List.setIfInBounds_toArray, List.set_cons_succ, List.set_cons_zero]
      refine sV (.bool false) (u12) (by kernel_rfl) (by kernel_rfl) ?_
      simp only [Act.put, List.setIfInBounds_toArray, List.set_cons_succ, List.set_cons_zero]
      refine sV (.bool false) (u12) (by kernel_rfl) (by kernel_rfl) ?_
      simp only [Act.put, List.setIfInBounds_toArray, List.set_cons_succ, List.set_cons_zero]
      refine sV (.bool false) (u12) (by kernel_rfl) (by kernel_rfl) ?_
      simp only [Act.put, List.setIfInBounds_toArray, List.set_cons_succ, List.set_cons_zero]
      refine sV (.pointer none) (u12) (by kernel_rfl) (by kernel_rfl) ?_
      simp only [Act.put, List.setIfInBounds_toArray, List.set_cons_succ, List.set_cons_zero]
      refine sC (R := fun w' => u12 = w') (v := .int .i64 0) (by kernel_rfl) (by kernel_rfl) (len_bad u12 none (.inl rfl)) ?_
      rintro _ rfl
      simp only [Act.put, List.setIfInBounds_toArray, List.set_cons_succ, List.set_cons_zero]
      refine sV (.bool false) (u12) (by kernel_rfl) (by kernel_rfl) ?_
      simp only [Act.put, List.setIfInBounds_toArray, List.set_cons_succ, List.set_cons_zero]
      refine sV (.bool false) (u12) (by kernel_rfl) (by kernel_rfl) ?_
      simp only [Act.put, List.setIfInBounds_toArray, List.set_cons_succ, List.set_cons_zero]
      refine sV (.bool false) (u12) (by kernel_rfl) (by kernel_rfl) ?_
      simp only [Act.put, List.setIfInBounds_toArray, List.set_cons_succ, List.set_cons_zero]
      refine sV (.pointer none) (u12) (by kernel_rfl) (by kernel_rfl) ?_
      simp only [Act.put, List.setIfInBounds_toArray, List.set_cons_succ, List.set_cons_zero]
      refine sCx (by kernel_rfl) (by kernel_rfl) (list_bad u12 none (.inl rfl)) ?_
      rintro e u14 ⟨la, lc, rfl, hb⟩
      refine ⟨_, rfl, ?_⟩
      simp only [Act.put, List.setIfInBounds_toArray, List.set_cons_succ, List.set_cons_zero]
      have H15 := WirS.hide (H13.out.more hb)
      clear H13
      clear hb
      refine sV (.int .i64 0) (u14) (by kernel_rfl) (by kernel_rfl) ?_
      simp only [Act.put, List.setIfInBounds_toArray, List.set_cons_succ, List.set_cons_zero]
      refine sV (.bool false) (u14) (by kernel_rfl) (by kernel_rfl) ?_
      simp only [Act.put, List.setIfInBounds_toArray, List.set_cons_succ, List.set_cons_zero]
      refine sV (.bool false) (u14) (by kernel_rfl) (by kernel_rfl) ?_
      simp only [Act.put, List.setIfInBounds_toArray, List.set_cons_succ, List.set_cons_zero]
      refine sV (.bool false) (u14) (by kernel_rfl) (by kernel_rfl) ?_
      simp only [Act.put, List.setIfInBounds_toArray, List.set_cons_succ, List.set_cons_zero]
      refine sV (.slice none 0 0) (u14) (by kernel_rfl) (by kernel_rfl) ?_
      simp only [Act.put, List.setIfInBounds_toArray, List.set_cons_succ, List.set_cons_zero]
      refine sV (.int .i64 0) (u14) (by kernel_rfl) (by kernel_rfl) ?_
      simp only [Act.put, List.setIfInBounds_toArray, List.set_cons_succ, List.set_cons_zero]
      refine sV (.bool false) (u14) (by kernel_rfl) (by kernel_rfl) ?_
      simp only [Act.put, List.setIfInBounds_toArray, List.set_cons_succ, List.set_cons_zero]
      refine sV (.bool false) (u14) (by kernel_rfl) (by kernel_rfl) ?_
      simp only [Act.put, List.setIfInBounds_toArray, List.set_cons_succ, List.set_cons_zero]
      refine sV (.bool false) (u14) (by kernel_rfl) (by kernel_rfl) ?_
      simp only [Act.put, List.setIfInBounds_toArray, List.set_cons_succ, List.set_cons_zero]
      refine sV (.int .i64 1) (u14) (by kernel_rfl) (by kernel_rfl) ?_
      simp only [Act.put, List.setIfInBounds_toArray, List.set_cons_succ, List.set_cons_zero]
      refine sV (.bool false) (u14) (by kernel_rfl) (by kernel_rfl) ?_
      simp only [Act.put, List.setIfInBounds_toArray, List.set_cons_succ, List.set_cons_zero]
      refine sV (.bool false) (u14) (by kernel_rfl) (by kernel_rfl) ?_
      simp only [Act.put, List.setIfInBounds_toArray, List.set_cons_succ, List.set_cons_zero]
      go_wp2_with fail
      go_roundw
      case rel => exact ⟨1, by omega, by go_num, H15.out⟩
      case measure => simp [intOf]
    · have hc : wr.cell? ⟨L, 1, none⟩ = some (.pointer (some ⟨Z, 0, none⟩)) := (show At wr L 124 [.pointer none, .pointer (some ⟨Z, 0, none⟩)] from (HB0.out.all (box 124 L [.pointer none, .pointer (some ⟨Z, 0, none⟩)]) (by simp)).1).cell 1
      go_upto_region 6 with fail
      clear hc
      refine wp_region_lit ?_
      refine sV (.pointer (some ⟨Z, 0, none⟩)) (wr) (by kernel_rfl) (by kernel_rfl) ?_
      simp only [Act.put, List.setIfInBounds_toArray, List.set_cons_succ, List.set_cons_zero]
      refine sC (R := fun w' => wr = w') (v := .tuple #[.slice none 0 0, .int .i64 1]) (by kernel_rfl) (by kernel_rfl) (encode_bad wr (some ⟨Z, 0, none⟩) (.inr ⟨Z, rfl, (show At wr Z 137 zt from (HB0.out.all (box 137 Z zt) (by simp)).1)⟩)) ?_
      rintro _ rfl
      simp only [Act.put, List.setIfInBounds_toArray, List.set_cons_succ, List.set_cons_zero]
      refine sV (.tuple #[.slice none 0 0, .int .i64 1]) (wr) (by kernel_rfl) (by kernel_rfl) ?_
      simp only [Act.put, List.setIfInBounds_toArray, List.set_cons_succ, List.set_cons_zero]
      refine sV (.slice none 0 0) (wr) (by kernel_rfl) (by kernel_rfl) ?_
      simp only [Act.put, List.setIfInBounds_toArray, List.set_cons_succ, List.set_cons_zero]
      refine sV (.int .i64 1) (wr) (by kernel_rfl) (by kernel_rfl) ?_
      simp only [Act.put, List.setIfInBounds_toArray, List.set_cons_succ, List.set_cons_zero]
      go_upto_region 7 with fail
      refine wp_region_lit ?_
      refine sV (.pointer (some ⟨Z, 0, none⟩)) (wr) (by kernel_rfl) (by kernel_rfl) ?_
      simp only [Act.put, List.setIfInBounds_toArray, List.set_cons_succ, List.set_cons_zero]
      refine sL (by kernel_rfl) _ _ (by rfl) _ (by kernel_rfl) (HB0.out.all (box 132 B x.cells) (by simp)).1 _ _ Try.underlying132 rfl (by kernel_rfl) (by rw [Sg.len HX.out]) ?_
      simp only [Act.put, List.setIfInBounds_toArray, List.set_cons_succ, List.set_cons_zero]
      refine sC (R := fun w' => Below wr.heap.size wr w') (v := .int .i64 1) (by kernel_rfl) (by kernel_rfl) (add_bad wr (some ⟨Z, 0, none⟩) x (.inr ⟨Z, rfl, (show At wr Z 137 zt from (HB0.out.all (box 137 Z zt) (by simp)).1)⟩)) ?_
      rintro u16 hb
      simp only [Act.put, List.setIfInBounds_toArray, List.set_cons_succ, List.set_cons_zero]
      have H17 := WirS.hide (HB0.out.more hb)
      clear HB0
      clear hb
      refine sV (.bool false) (u16) (by kernel_rfl) (by kernel_rfl) ?_
      simp only [Act.put, List.setIfInBounds_toArray, List.set_cons_succ, List.set_cons_zero]
      refine sV (.bool false) (u16) (by kernel_rfl) (by kernel_rfl) ?_
      simp only [Act.put, List.setIfInBounds_toArray, List.set_cons_succ, List.set_cons_zero]
      refine sV (.pointer (some ⟨Z, 0, none⟩)) (u16) (by kernel_rfl) (by kernel_rfl) ?_
      simp only [Act.put, List.setIfInBounds_toArray, List.set_cons_succ, List.set_cons_zero]
      refine sL (by kernel_rfl) _ _ (by rfl) _ (by kernel_rfl) (H17.out.all (box 132 B x.cells) (by simp)).1 _ _ Try.underlying132 rfl (by kernel_rfl) (by rw [Sg.len HX.out]) ?_
      simp only [Act.put, List.setIfInBounds_toArray, List.set_cons_succ, List.set_cons_zero]
      refine sC (R := fun w' => Below u16.heap.size u16 w') (v := .bool false) (by kernel_rfl) (by kernel_rfl) (has_bad u16 (some ⟨Z, 0, none⟩) x HX.out (.inr ⟨Z, rfl, (show At u16 Z 137 zt from (H17.out.all (box 137 Z zt) (by simp)).1)⟩)) ?_
      rintro u18 hb
      simp only [Act.put, List.setIfInBounds_toArray, List.set_cons_succ, List.set_cons_zero]
      have H19 := WirS.hide (H17.out.more hb)
      clear H17
      clear hb
      refine sV (.bool false) (u18) (by kernel_rfl) (by kernel_rfl) ?_
      simp only [Act.put, List.setIfInBounds_toArray, List.set_cons_succ, List.set_cons_zero]
      refine sV (.bool false) (u18) (by kernel_rfl) (by kernel_rfl) ?_
      simp only [Act.put, List.setIfInBounds_toArray, List.set_cons_succ, List.set_cons_zero]
      refine sV (.pointer (some ⟨Z, 0, none⟩)) (u18) (by kernel_rfl) (by kernel_rfl) ?_
      simp only [Act.put, List.setIfInBounds_toArray, List.set_cons_succ, List.set_cons_zero]
      refine sV (.pointer (some ⟨B, 4, none⟩)) (u18) (by kernel_rfl) (by kernel_rfl) ?_
      simp only [Act.put, List.setIfInBounds_toArray, List.set_cons_succ, List.set_cons_zero]
      refine wpList_load_mid' (by kernel_rfl) _ _ (by rfl) B 4 (by kernel_rfl) (b8 x.h) _ (range_h HX.out (show At u18 B 132 x.cells from (H19.out.all (box 132 B x.cells) (by simp)).1)) Try.underlying34 (by rfl) (by rw [b8_len, HX.out.h32]; kernel_rfl) ?_
      simp only [Act.put, List.setIfInBounds_toArray, List.set_cons_succ, List.set_cons_zero]
      refine sC (R := fun w' => Below u18.heap.size u18 w') (v := .slice none 0 0) (by kernel_rfl) (by kernel_rfl) (who_bad u18 (some ⟨Z, 0, none⟩) x.h HX.out.h32 (.inr ⟨Z, rfl, (show At u18 Z 137 zt from (H19.out.all (box 137 Z zt) (by simp)).1)⟩)) ?_
      rintro u20 hb
      simp only [Act.put, List.setIfInBounds_toArray, List.set_cons_succ, List.set_cons_zero]
      have H21 := WirS.hide (H19.out.more hb)
      clear H19
      clear hb
      refine sV (.int .i64 0) (u20) (by kernel_rfl) (by kernel_rfl) ?_
      simp only [Act.put, List.setIfInBounds_toArray, List.set_cons_succ, List.set_cons_zero]
      refine sV (.bool false) (u20) (by kernel_rfl) (by kernel_rfl) ?_
      simp only [Act.put, List.setIfInBounds_toArray, List.set_cons_succ, List.set_cons_zero]
      refine sV (.bool false) (u20) (by kernel_rfl) (by kernel_rfl) ?_
      simp only [Act.put, List.setIfInBounds_toArray, List.set_cons_succ, List.set_cons_zero]
      refine sV (.bool false) (u20) (by kernel_rfl) (by kernel_rfl) ?_
      simp only [Act.put, List.setIfInBounds_toArray, List.set_cons_succ, List.set_cons_zero]
      refine sV (.pointer (some ⟨Z, 0, none⟩)) (u20) (by kernel_rfl) (by kernel_rfl) ?_
      simp only [Act.put, List.setIfInBounds_toArray, List.set_cons_succ, List.set_cons_zero]
      refine sC (R := fun w' => u20 = w') (v := .int .i64 0) (by kernel_rfl) (by kernel_rfl) (len_bad u20 (some ⟨Z, 0, none⟩) (.inr ⟨Z, rfl, (show At u20 Z 137 zt from (H21.out.all (box 137 Z zt) (by simp)).1)⟩)) ?_
      rintro _ rfl
      simp only [Act.put, List.setIfInBounds_toArray, List.set_cons_succ, List.set_cons_zero]
      refine sV (.bool false) (u20) (by kernel_rfl) (by kernel_rfl) ?_
      simp only [Act.put, List.setIfInBounds_toArray, List.set_cons_succ, List.set_cons_zero]
      refine sV (.bool false) (u20) (by kernel_rfl) (by kernel_rfl) ?_
      simp only [Act.put, List.setIfInBounds_toArray, List.set_cons_succ, List.set_cons_zero]
      refine sV (.bool false) (u20) (by kernel_rfl) (by kernel_rfl) ?_
      simp only [Act.put, List.setIfInBounds_toArray, List.set_cons_succ, List.set_cons_zero]
      refine sV (.pointer (some ⟨Z, 0, none⟩)) (u20) (by kernel_rfl) (by kernel_rfl) ?_
      simp only [Act.put, List.setIfInBounds_toArray, List.set_cons_succ, List.set_cons_zero]
      refine sCx (by kernel_rfl) (by kernel_rfl) (list_bad u20 (some ⟨Z, 0, none⟩) (.inr ⟨Z, rfl, (show At u20 Z 137 zt from (H21.out.all (box 137 Z zt) (by simp)).1)⟩)) ?_
      rintro e u22 ⟨la, lc, rfl, hb⟩
      refine ⟨_, rfl, ?_⟩
      simp only [Act.put, List.setIfInBounds_toArray, List.set_cons_succ, List.set_cons_zero]
      have H23 := WirS.hide (H21.out.more hb)
      clear H21
      clear hb
      refine sV (.int .i64 0) (u22) (by kernel_rfl) (by kernel_rfl) ?_
      simp only [Act.put, List.setIfInBounds_toArray, List.set_cons_succ, List.set_cons_zero]
      refine sV (.bool false) (u22) (by kernel_rfl) (by kernel_rfl) ?_
      simp only [Act.put, List.setIfInBounds_toArray, List.set_cons_succ, List.set_cons_zero]
      refine sV (.bool false) (u22) (by kernel_rfl) (by kernel_rfl) ?_
      simp only [Act.put, List.setIfInBounds_toArray, List.set_cons_succ, List.set_cons_zero]
      refine sV (.bool false) (u22) (by kernel_rfl) (by kernel_rfl) ?_
      simp only [Act.put, List.setIfInBounds_toArray, List.set_cons_succ, List.set_cons_zero]
      refine sV (.slice none 0 0) (u22) (by kernel_rfl) (by kernel_rfl) ?_
      simp only [Act.put, List.setIfInBounds_toArray, List.set_cons_succ, List.set_cons_zero]
      refine sV (.int .i64 0) (u22) (by kernel_rfl) (by kernel_rfl) ?_
      simp only [Act.put, List.setIfInBounds_toArray, List.set_cons_succ, List.set_cons_zero]
      refine sV (.bool false) (u22) (by kernel_rfl) (by kernel_rfl) ?_
      simp only [Act.put, List.setIfInBounds_toArray, List.set_cons_succ, List.set_cons_zero]
      refine sV (.bool false) (u22) (by kernel_rfl) (by kernel_rfl) ?_
      simp only [Act.put, List.setIfInBounds_toArray, List.set_cons_succ, List.set_cons_zero]
      refine sV (.bool false) (u22) (by kernel_rfl) (by kernel_rfl) ?_
      simp only [Act.put, List.setIfInBounds_toArray, List.set_cons_succ, List.set_cons_zero]
      refine sV (.int .i64 1) (u22) (by kernel_rfl) (by kernel_rfl) ?_
      simp only [Act.put, List.setIfInBounds_toArray, List.set_cons_succ, List.set_cons_zero]
      refine sV (.bool false) (u22) (by kernel_rfl) (by kernel_rfl) ?_
      simp only [Act.put, List.setIfInBounds_toArray, List.set_cons_succ, List.set_cons_zero]
      refine sV (.bool false) (u22) (by kernel_rfl) (by kernel_rfl) ?_
      simp only [Act.put, List.setIfInBounds_toArray, List.set_cons_succ, List.set_cons_zero]
      go_wp2_with fail
      go_roundw
      case rel => exact ⟨2, by omega, by go_num, H23.out⟩
      case measure => simp [intOf]
    · have HAW := WirS.hide (fun U => awake_any U)
      go_wp2_with (go_at_call 84; refine (HAW.out _).mono ?_; rintro e uz ⟨rfl, hb⟩; have HBZ := WirS.hide (HB0.out.more hb); clear hb)
      go_ret
      exact ⟨rfl, HBZ.out.low⟩
end SgN
end Go.Proofs.Ythcemghamdmjmaa
