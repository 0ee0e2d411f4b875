/-
  The document's header: Put, Encode, Hash.
-/
import Derived.Test.YtfmegeibnjmfpaaDoorPdW
import Derived.Test.YtfmegeibnjmfpaaDoorPdR
import Derived.Test.YtfmegeibnjmfpaaDoorPdV
import Derived.Test.YtfmegeibnjmfpaaDoorBlkSe
namespace Go.Proofs.YtfmegeibnjmfpaaDoor
namespace HcA
open Go.RowKit
open BlkM WirM WirS HdA HdB HdC HdE
open WirA (putZ putE)
open WirD (numB)
open WirE (tb NewB)
open WirX (Thg Bag own bag_own)
open WirAA (box bag_box)
open WirAB (sCx)
open WirRT (rng)
open WrwA (NO cat no_one)
open WrwB (RW rwt RBW)
open ValJ (w_ok numB_le)
open HdL (rcheck_any)
open HhA (bag_row hin)
open BlkR (alH)

def Rr (w0 : World) (l : List Thg) (X : Nat) (ys : List Int) (e : Ending) (w' : World) : Prop := e = .returned (.int .i64 0) ∧ ∃ v', Bag w0 w' (rwt X 1048576 v' ys 0 :: l)
theorem r_num {w0 w : World} {l : List Thg} {X : Nat} {v : Value} {ys : List Int} (n : Int) (h : Bag w0 w (rwt X 1048576 v ys 0 :: l)) (h0 : 0 ≤ n) (h1 : n < 9223372036854775808) (hl : ((ys.length + (numB n).length : Nat) : Int) ≤ 1048576) :
    Calls Tryd.prog 82 #[.pointer (some ⟨X, 0, none⟩), .int .i64 n] w (Rr w0 l X (ys ++ numB n)) := by
  obtain ⟨e1, e2⟩ := w_ok hl
  have C := WrwC.num_any w0 w l X 1048576 v ys 0 n h h0 h1
  rw [e1, e2] at C
  exact C
theorem r_text {w0 w : World} {l : List Thg} {X : Nat} {v : Value} {ys : List Int} (s : ByteArray) (h : Bag w0 w (rwt X 1048576 v ys 0 :: l)) (hm : s.size ≤ 1048576) (hl : ((ys.length + (numB s.size ++ tb s).length : Nat) : Int) ≤ 1048576) :
    Calls Tryd.prog 81 #[.pointer (some ⟨X, 0, none⟩), .string s] w (Rr w0 l X (ys ++ (numB s.size ++ tb s))) := by
  obtain ⟨e1, e2⟩ := w_ok hl
  have C := WrwC.text_any w0 w l X 1048576 v ys 0 s h hm
  rw [e1, e2] at C
  exact C
theorem r_hash {w0 w : World} {l : List Thg} {X : Nat} {v : Value} {ys : List Int} (hs : List Int) (hh : hs.length = 32) (h : Bag w0 w (rwt X 1048576 v ys 0 :: l)) (hl : ((ys.length + hs.length : Nat) : Int) ≤ 1048576) :
    Calls Tryd.prog 83 #[.pointer (some ⟨X, 0, none⟩), .agg (b8 hs).toArray] w (Rr w0 l X (ys ++ hs)) := by
  obtain ⟨e1, e2⟩ := w_ok hl
  have C := WrwC.hash_any w0 w l X 1048576 v ys 0 hs hh h
  rw [e1, e2] at C
  exact C
set_option maxRecDepth 10000 in
set_option maxHeartbeats 8000000 in
theorem put_any (w0 w : World) (l : List Thg) (X : Nat) (v : Value) (t : Hd) (hok : HOk t) (h : Bag w0 w (rwt X 1048576 v [] 0 :: l)) :
    Calls Tryd.prog 59 #[.pointer (some ⟨X, 0, none⟩), .agg t.cells.toArray] w fun e w' => e = .returned (.tuple #[]) ∧ ∃ v' B, Bag w0 w' (rwt X 1048576 v' (hform t) 0 :: box 58 B t.cells :: l) := by
  obtain ⟨B, hB⟩ : ∃ B, w.heap.size = B := ⟨_, rfl⟩
  obtain ⟨W0, e0⟩ : ∃ X, X = w.alloc (.cells t.cells.toArray 58) := ⟨_, rfl⟩
  have H0 := WirS.hide ((bag_box (T := 58) (cs := t.cells) (X := B) h hB.symm (w' := W0) (by rw [e0, ← hB]; exact box_at _ _) (by rw [e0]; exact box_below _ _)).swap)
  have HLen := WirS.hide t.len
  have HOK := WirS.hide hok
  have HP := WirS.hide (hpre_len hok)
  have HL1 := WirS.hide (numB_le t.ch.size (by have := hok.size; omega))
  have HL2 := WirS.hide (numB_le t.ht (by have := hok.ht; omega))
  have HL3 := WirS.hide (numB_le t.tm (by have := hok.tm; omega))
  have g0 : t.cells[0]? = some (.string t.ch) := rfl
  have g1 : t.cells[1]? = some (.int .i64 t.ht) := rfl
  have g2 : t.cells[2]? = some (.int .i64 t.tm) := rfl
  have HG := WirS.hide (And.intro g0 (And.intro g1 g2))
  have E0 := WirS.hide e0
  clear h e0 hok g0 g1 g2
  have HT0 := WirS.hide (r_text t.ch H0.out (by have := HOK.out.size; omega) (by have h1 := HL1.out; have h2 := HOK.out.size; simp only [List.length_append, tb_len, List.length_nil]; omega))
  rw [List.nil_append] at HT0
  go_enter Tryd.func59, Tryd.ntmps59
  go_upto_region 1 with fail
  rw [show w.alloc (.cells t.cells.toArray 58) = W0 from E0.out.symm]
  clear E0
  refine wp_region_lit ?_
  refine sV (.pointer (some ⟨X, 0, none⟩)) (W0) (by kernel_rfl) (by kernel_rfl) ?_
  simp only [Act.put, List.setIfInBounds_toArray, List.set_cons_succ, List.set_cons_zero]
  refine sV (.pointer (some ⟨B, 0, none⟩)) (W0) (by kernel_rfl) (by kernel_rfl) ?_
  simp only [Act.put, List.setIfInBounds_toArray, List.set_cons_succ, List.set_cons_zero]
  refine sP (by kernel_rfl) _ _ (by rfl) ⟨B, 0, none⟩ (by kernel_rfl) (.string t.ch) ((H0.out.swap.head.cell 0).trans HG.out.1) (by kernel_rfl) ?_
  simp only [Act.put, List.setIfInBounds_toArray, List.set_cons_succ, List.set_cons_zero]
  refine sC (by kernel_rfl) (by kernel_rfl) HT0.out ?_
  rintro u1 ⟨v1, hb⟩
  simp only [Act.put, List.setIfInBounds_toArray, List.set_cons_succ, List.set_cons_zero]
  have H1 := WirS.hide hb
  clear hb H0 HT0
  have HT := WirS.hide (r_num t.ht H1.out (by have := HOK.out.ht; omega) (by have := HOK.out.ht; omega) (by have h1 := HL1.out; have h2 := HOK.out.size; have h3 := HL2.out; simp only [List.length_append, tb_len]; omega))
  go_upto_region 2 with fail
  refine wp_region_lit ?_
  refine sV (.pointer (some ⟨X, 0, none⟩)) (u1) (by kernel_rfl) (by kernel_rfl) ?_
  simp only [Act.put, List.setIfInBounds_toArray, List.set_cons_succ, List.set_cons_zero]
  refine sV (.pointer (some ⟨B, 1, none⟩)) (u1) (by kernel_rfl) (by kernel_rfl) ?_
  simp only [Act.put, List.setIfInBounds_toArray, List.set_cons_succ, List.set_cons_zero]
  refine sP (by kernel_rfl) _ _ (by rfl) ⟨B, 1, none⟩ (by kernel_rfl) (.int .i64 t.ht) ((H1.out.swap.head.cell 1).trans HG.out.2.1) (by kernel_rfl) ?_
  simp only [Act.put, List.setIfInBounds_toArray, List.set_cons_succ, List.set_cons_zero]
  refine sC (by kernel_rfl) (by kernel_rfl) HT.out ?_
  rintro u2 ⟨v2, hb⟩
  simp only [Act.put, List.setIfInBounds_toArray, List.set_cons_succ, List.set_cons_zero]
  have H2 := WirS.hide hb
  clear hb H1 HT
  have HT := WirS.hide (r_num t.tm H2.out (by have := HOK.out.tm; omega) (by have := HOK.out.tm; omega) (by have h1 := HL1.out; have h2 := HOK.out.size; have h3 := HL2.out; have h4 := HL3.out; simp only [List.length_append, tb_len]; omega))
  go_upto_region 3 with fail
  refine wp_region_lit ?_
  refine sV (.pointer (some ⟨X, 0, none⟩)) (u2) (by kernel_rfl) (by kernel_rfl) ?_
  simp only [Act.put, List.setIfInBounds_toArray, List.set_cons_succ, List.set_cons_zero]
  refine sV (.pointer (some ⟨B, 2, none⟩)) (u2) (by kernel_rfl) (by kernel_rfl) ?_
  simp only [Act.put, List.setIfInBounds_toArray, List.set_cons_succ, List.set_cons_zero]
  refine sP (by kernel_rfl) _ _ (by rfl) ⟨B, 2, none⟩ (by kernel_rfl) (.int .i64 t.tm) ((H2.out.swap.head.cell 2).trans HG.out.2.2) (by kernel_rfl) ?_
  simp only [Act.put, List.setIfInBounds_toArray, List.set_cons_succ, List.set_cons_zero]
  refine sC (by kernel_rfl) (by kernel_rfl) HT.out ?_
  rintro x0 ⟨y0, hb⟩
  simp only [Act.put, List.setIfInBounds_toArray, List.set_cons_succ, List.set_cons_zero]
  have H3 := WirS.hide (show Bag w0 x0 (rwt X 1048576 y0 (hpre t ++ t.hs.take (32 * 0)) 0 :: box 58 B t.cells :: l) from by rw [Nat.mul_zero, List.take_zero, List.append_nil]; exact hb)
  clear hb H2 HT
  have HQ0 := H3
  clear H3
  have HT := WirS.hide (r_hash (t.part 0) (t.part_len 0 (by decide)) HQ0.out (by have h1 := HP.out; have h2 := t.part_len 0 (by decide); have h3 := t.lh; rw [List.length_append, List.length_take, h2]; omega))
  rw [List.append_assoc, take_part] at HT
  go_upto_region 4 with fail
  refine wp_region_lit ?_
  refine sV (.pointer (some ⟨X, 0, none⟩)) (x0) (by kernel_rfl) (by kernel_rfl) ?_
  simp only [Act.put, List.setIfInBounds_toArray, List.set_cons_succ, List.set_cons_zero]
  refine sV (.pointer (some ⟨B, 3, none⟩)) (x0) (by kernel_rfl) (by kernel_rfl) ?_
  simp only [Act.put, List.setIfInBounds_toArray, List.set_cons_succ, List.set_cons_zero]
  refine wpList_load_mid (by rfl) _ _ (by rfl) B 3 (by kernel_rfl) (b8 (t.part 0)) _ (t.range HQ0.out.swap.head 0 (by decide)) Tryd.underlying26 (by rfl) (by rw [b8_len, t.part_len 0 (by decide)]; kernel_rfl) ?_
  simp only [Act.put, List.setIfInBounds_toArray, List.set_cons_succ, List.set_cons_zero]
  refine sC (by kernel_rfl) (by kernel_rfl) HT.out ?_
  rintro x1 ⟨y1, hb⟩
  simp only [Act.put, List.setIfInBounds_toArray, List.set_cons_succ, List.set_cons_zero]
  have HQ1 := WirS.hide hb
  clear hb HT
  have HT := WirS.hide (r_hash (t.part 1) (t.part_len 1 (by decide)) HQ1.out (by have h1 := HP.out; have h2 := t.part_len 1 (by decide); have h3 := t.lh; rw [List.length_append, List.length_take, h2]; omega))
  rw [List.append_assoc, take_part] at HT
  go_upto_region 5 with fail
  refine wp_region_lit ?_
  refine sV (.pointer (some ⟨X, 0, none⟩)) (x1) (by kernel_rfl) (by kernel_rfl) ?_
  simp only [Act.put, List.setIfInBounds_toArray, List.set_cons_succ, List.set_cons_zero]
  refine sV (.pointer (some ⟨B, 35, none⟩)) (x1) (by kernel_rfl) (by kernel_rfl) ?_
  simp only [Act.put, List.setIfInBounds_toArray, List.set_cons_succ, List.set_cons_zero]
  refine wpList_load_mid (by rfl) _ _ (by rfl) B 35 (by kernel_rfl) (b8 (t.part 1)) _ (t.range HQ1.out.swap.head 1 (by decide)) Tryd.underlying26 (by rfl) (by rw [b8_len, t.part_len 1 (by decide)]; kernel_rfl) ?_
  simp only [Act.put, List.setIfInBounds_toArray, List.set_cons_succ, List.set_cons_zero]
  refine sC (by kernel_rfl) (by kernel_rfl) HT.out ?_
  rintro x2 ⟨y2, hb⟩
  simp only [Act.put, List.setIfInBounds_toArray, List.set_cons_succ, List.set_cons_zero]
  have HQ2 := WirS.hide hb
  clear hb HT
  have HT := WirS.hide (r_hash (t.part 2) (t.part_len 2 (by decide)) HQ2.out (by have h1 := HP.out; have h2 := t.part_len 2 (by decide); have h3 := t.lh; rw [List.length_append, List.length_take, h2]; omega))
  rw [List.append_assoc, take_part] at HT
  go_upto_region 6 with fail
  refine wp_region_lit ?_
  refine sV (.pointer (some ⟨X, 0, none⟩)) (x2) (by kernel_rfl) (by kernel_rfl) ?_
  simp only [Act.put, List.setIfInBounds_toArray, List.set_cons_succ, List.set_cons_zero]
  refine sV (.pointer (some ⟨B, 67, none⟩)) (x2) (by kernel_rfl) (by kernel_rfl) ?_
  simp only [Act.put, List.setIfInBounds_toArray, List.set_cons_succ, List.set_cons_zero]
  refine wpList_load_mid (by rfl) _ _ (by rfl) B 67 (by kernel_rfl) (b8 (t.part 2)) _ (t.range HQ2.out.swap.head 2 (by decide)) Tryd.underlying26 (by rfl) (by rw [b8_len, t.part_len 2 (by decide)]; kernel_rfl) ?_
  simp only [Act.put, List.setIfInBounds_toArray, List.set_cons_succ, List.set_cons_zero]
  refine sC (by kernel_rfl) (by kernel_rfl) HT.out ?_
  rintro x3 ⟨y3, hb⟩
  simp only [Act.put, List.setIfInBounds_toArray, List.set_cons_succ, List.set_cons_zero]
  have HQ3 := WirS.hide hb
  clear hb HT
  have HT := WirS.hide (r_hash (t.part 3) (t.part_len 3 (by decide)) HQ3.out (by have h1 := HP.out; have h2 := t.part_len 3 (by decide); have h3 := t.lh; rw [List.length_append, List.length_take, h2]; omega))
  rw [List.append_assoc, take_part] at HT
  go_upto_region 7 with fail
  refine wp_region_lit ?_
  refine sV (.pointer (some ⟨X, 0, none⟩)) (x3) (by kernel_rfl) (by kernel_rfl) ?_
  simp only [Act.put, List.setIfInBounds_toArray, List.set_cons_succ, List.set_cons_zero]
  refine sV (.pointer (some ⟨B, 99, none⟩)) (x3) (by kernel_rfl) (by kernel_rfl) ?_
  simp only [Act.put, List.setIfInBounds_toArray, List.set_cons_succ, List.set_cons_zero]
  refine wpList_load_mid (by rfl) _ _ (by rfl) B 99 (by kernel_rfl) (b8 (t.part 3)) _ (t.range HQ3.out.swap.head 3 (by decide)) Tryd.underlying26 (by rfl) (by rw [b8_len, t.part_len 3 (by decide)]; kernel_rfl) ?_
  simp only [Act.put, List.setIfInBounds_toArray, List.set_cons_succ, List.set_cons_zero]
  refine sC (by kernel_rfl) (by kernel_rfl) HT.out ?_
  rintro x4 ⟨y4, hb⟩
  simp only [Act.put, List.setIfInBounds_toArray, List.set_cons_succ, List.set_cons_zero]
  have HQ4 := WirS.hide hb
  clear hb HT
  have HZ := WirS.hide (show Bag w0 x4 (rwt X 1048576 y4 (hform t) 0 :: box 58 B t.cells :: l) from by
    have h := HQ4.out
    rw [show t.hs.take (32 * (3 + 1)) = t.hs from List.take_of_length_le (by rw [t.lh]; decide)] at h
    exact h)
  go_wp2_with fail
  go_end0
  exact ⟨rfl, y4, B, HZ.out⟩
set_option maxRecDepth 10000 in
set_option maxHeartbeats 8000000 in
theorem encode_bad (w : World) (t : Hd) (hs : t.ch.size ≤ 1099511627776) (hc : hchk t ≠ 0) :
    Calls Tryd.prog 32 #[.agg t.cells.toArray] w fun e w' => e = .returned (.tuple #[.slice none 0 0, .int .i64 (hchk t)]) ∧ Below w.heap.size w w' := by
  obtain ⟨W0, e0⟩ : ∃ X, X = w.alloc (.cells t.cells.toArray 58) := ⟨_, rfl⟩
  have HA := WirS.hide (show At W0 w.heap.size 58 t.cells by rw [e0]; exact box_at _ _)
  have HB := WirS.hide (show Below w.heap.size w W0 by rw [e0]; exact box_below _ _)
  have HC := WirS.hide (rcheck_any W0 t hs)
  have E0 := WirS.hide e0
  have HLen := WirS.hide t.len
  generalize hchk t = cd at *
  have hn1 : (cd != 0) = true := by simpa using hc
  clear e0 hs hc
  go_enter Tryd.func32, Tryd.ntmps32
  go_upto_region 1 with fail
  rw [show w.alloc (.cells t.cells.toArray 58) = W0 from E0.out.symm]
  clear E0
  refine wp_region_lit ?_
  refine sL (by kernel_rfl) _ _ (by rfl) _ (by kernel_rfl) HA.out _ _ Tryd.underlying58 rfl (by kernel_rfl) (by rw [HLen.out]) ?_
  simp only [Act.put, List.setIfInBounds_toArray, List.set_cons_succ, List.set_cons_zero]
  refine sC (R := fun w' => Below W0.heap.size W0 w') (by kernel_rfl) (by kernel_rfl) HC.out ?_
  rintro u hb
  simp only [Act.put, List.setIfInBounds_toArray, List.set_cons_succ, List.set_cons_zero]
  have HB1 := WirS.hide (HB.out.trans (hb.mono HB.out.size))
  clear hb
  go_wp2_with fail
  go_ret2
  exact ⟨rfl, HB1.out⟩
set_option maxRecDepth 10000 in
set_option maxHeartbeats 8000000 in
theorem encode_ok (w : World) (t : Hd) (hok : HOk t) :
    Calls Tryd.prog 32 #[.agg t.cells.toArray] w fun e w' => ∃ va vn vc, e = .returned (.tuple #[.slice va vn vc, .int .i64 0]) ∧ NO w w' (.slice va vn vc) (hform t) := by
  obtain ⟨W0, e0⟩ : ∃ X, X = w.alloc (.cells t.cells.toArray 58) := ⟨_, rfl⟩
  have HX := WirS.hide (show Bag w W0 [box 58 w.heap.size t.cells] by rw [e0]; exact bag_box (Bag.nil (Below.refl _ _)) rfl (box_at _ _) (box_below _ _))
  have HC := WirS.hide (rcheck_any W0 t (by have := hok.size; omega))
  rw [chk_ok hok] at HC
  have E0 := WirS.hide e0
  have HLen := WirS.hide t.len
  have HOK := WirS.hide hok
  clear e0 hok
  go_enter Tryd.func32, Tryd.ntmps32
  go_upto_region 1 with fail
  rw [show w.alloc (.cells t.cells.toArray 58) = W0 from E0.out.symm]
  generalize hXe : w.heap.size = X at *
  have HXE := WirS.hide hXe
  clear E0 hXe
  refine wp_region_lit ?_
  refine sL (by kernel_rfl) _ _ (by rfl) _ (by kernel_rfl) HX.out.head _ _ Tryd.underlying58 rfl (by kernel_rfl) (by rw [HLen.out]) ?_
  simp only [Act.put, List.setIfInBounds_toArray, List.set_cons_succ, List.set_cons_zero]
  refine sC (R := fun w' => Below W0.heap.size W0 w') (by kernel_rfl) (by kernel_rfl) HC.out ?_
  rintro u0 hb
  simp only [Act.put, List.setIfInBounds_toArray, List.set_cons_succ, List.set_cons_zero]
  have HX0 := WirS.hide (HX.out.more hb)
  clear hb HX HC
  go_upto_region 5 with ((go_at_call 58; refine (WrwB.new_any _ 1048576 (by omega) (by omega)).mono ?_; rintro e u1 ⟨W, rfl, hW, hs, hb⟩; have H1 := WirS.hide (HX0.out.new (o := rwt W 1048576 (.slice none 0 0) [] 0) hb hs (fun k hk => by rcases hk with rfl | hk; exact hW; exact absurd hk (by simp [Value.ownBlock]))); clear hW hs hb HX0))
  refine wp_region_lit ?_
  refine sV (.pointer (some ⟨W, 0, none⟩)) (u1) (by kernel_rfl) (by kernel_rfl) ?_
  simp only [Act.put, List.setIfInBounds_toArray, List.set_cons_succ, List.set_cons_zero]
  refine sL (by kernel_rfl) _ _ (by rfl) _ (by kernel_rfl) H1.out.swap.head _ _ Tryd.underlying58 rfl (by kernel_rfl) (by rw [HLen.out]) ?_
  simp only [Act.put, List.setIfInBounds_toArray, List.set_cons_succ, List.set_cons_zero]
  refine sC (by kernel_rfl) (by kernel_rfl) (put_any w u1 _ W _ t HOK.out H1.out) ?_
  rintro u2 ⟨v2, B, hb⟩
  simp only [Act.put, List.setIfInBounds_toArray, List.set_cons_succ, List.set_cons_zero]
  have H2 := WirS.hide hb
  clear hb H1
  have HD := WirS.hide (WrwB.done_ok u2 W 1048576 v2 _ H2.out.head)
  go_wp2_with ((go_at_call 60; refine (HD.out).mono ?_; rintro e z1 ⟨da, dn, dc, rfl, ho⟩; have HO := WirS.hide ho; clear ho))
  go_ret2
  exact ⟨_, _, _, rfl, HO.out.1, fun q hq => Nat.le_trans H2.out.low.size (HO.out.2.1 q hq), H2.out.low.trans (HO.out.2.2.mono H2.out.low.size)⟩
set_option maxRecDepth 10000 in
set_option maxHeartbeats 4000000 in
theorem hash_bad (w : World) (t : Hd) (hs : t.ch.size ≤ 1099511627776) (hc : hchk t ≠ 0) :
    Calls Tryd.prog 34 #[.agg t.cells.toArray] w fun e w' => e = .returned (.tuple #[.agg (b8 (List.replicate 32 0)).toArray, .int .i64 (hchk t)]) ∧ Below w.heap.size w w' := by
  have HC := WirS.hide (fun U => encode_bad U t hs hc)
  have HLen := WirS.hide t.len
  generalize hchk t = cd at *
  have hn1 : (cd != 0) = true := by simpa using hc
  clear hs hc
  have hb0 := bag_box (w0 := w) (T := 58) (cs := t.cells) (X := w.heap.size) (Bag.nil (Below.refl _ _)) rfl (w' := w.alloc (.cells t.cells.toArray 58)) (At.new _ _ _) (Below.alloc (Below.refl _ _) (Nat.le_refl _) _)
  go_enter Tryd.func34, Tryd.ntmps34
  go_upto_region 0 with fail
  refine wp_region_lit ?_
  refine sV (.pointer (some ⟨w.heap.size, 0, none⟩)) (w.alloc (.cells t.cells.toArray 58)) (by kernel_rfl) (by kernel_rfl) ?_
  simp only [Act.put, List.setIfInBounds_toArray, List.set_cons_succ, List.set_cons_zero]
  obtain ⟨A, eA⟩ : ∃ A, w.heap.size = A := ⟨_, rfl⟩
  rw [eA] at hb0 ⊢
  clear eA
  generalize World.alloc w _ = x0 at *
  refine sV (.pointer (some ⟨x0.heap.size, 0, none⟩)) (x0.alloc (.cells (b8 (List.replicate 32 0)).toArray 26)) (by kernel_rfl) (alH _ _ (by rfl) x0) ?_
  simp only [Act.put, List.setIfInBounds_toArray, List.set_cons_succ, List.set_cons_zero]
  obtain ⟨R, eR⟩ : ∃ A, x0.heap.size = A := ⟨_, rfl⟩
  have hb1 := bag_box (T := 26) (cs := b8 (List.replicate 32 0)) (X := R) hb0 eR.symm (w' := x0.alloc (.cells (b8 (List.replicate 32 0)).toArray 26)) (by rw [← eR]; exact At.new _ _ _) (Below.alloc (Below.refl _ _) (Nat.le_refl _) _)
  rw [eR]
  clear eR hb0
  generalize World.alloc x0 _ = x1 at *
  have H1 := WirS.hide hb1
  clear hb1
  go_upto_region 1 with fail
  refine wp_region_lit ?_
  refine sL (by kernel_rfl) _ _ (by rfl) _ (by kernel_rfl) H1.out.swap.head _ _ Tryd.underlying58 rfl (by kernel_rfl) (by rw [HLen.out]) ?_
  simp only [Act.put, List.setIfInBounds_toArray, List.set_cons_succ, List.set_cons_zero]
  refine sC (R := fun w' => Below x1.heap.size x1 w') (by kernel_rfl) (by kernel_rfl) (HC.out x1) ?_
  rintro x2 hb
  simp only [Act.put, List.setIfInBounds_toArray, List.set_cons_succ, List.set_cons_zero]
  have H2 := WirS.hide (H1.out.more hb)
  clear hb H1
  go_upto_region 3 with fail
  refine wp_region_lit ?_
  refine sV (.agg (b8 (List.replicate 32 0)).toArray) (x2) (by kernel_rfl) (by kernel_rfl) ?_
  simp only [Act.put, List.setIfInBounds_toArray, List.set_cons_succ, List.set_cons_zero]
  refine sV (.int .i64 cd) (x2) (by kernel_rfl) (by kernel_rfl) ?_
  simp only [Act.put, List.setIfInBounds_toArray, List.set_cons_succ, List.set_cons_zero]
  refine stepStore (by rfl) _ _ _ (by rfl) R (b8 (List.replicate 32 0)) (by kernel_rfl) (by kernel_rfl) H2.out.head 32 (by kernel_rfl) (by rw [b8_len]; rfl) (by rw [b8_len]; rfl) (oneCells_b8 _) ?_
  simp only [Act.put]
  have H3 := WirS.hide (bag_row H2.out (b8 (List.replicate 32 0)))
  clear H2
  generalize World.setRow x2 R _ = x3 at *
  go_wp2_with fail
  exact bodyPost_ret (BlkO.retRow2 H3.out.head Tryd.results34 _ (by rfl) (.int .i64 cd) (by rfl) _ 32 Tryd.underlying26 rfl (by kernel_rfl) (by rw [b8_len]; rfl)) rfl ⟨rfl, H3.out.low⟩
set_option maxRecDepth 10000 in
set_option maxHeartbeats 4000000 in
theorem hash_ok (w : World) (t : Hd) (ho : HOk t) (hlen : (hform t).length ≤ 1000) (hr : rng (hin t)) :
    Calls Tryd.prog 34 #[.agg t.cells.toArray] w fun e w' => e = .returned (.tuple #[.agg (b8 (sumL (hin t))).toArray, .int .i64 0]) ∧ Below w.heap.size w w' := by
  have HC := WirS.hide (fun U => encode_ok U t ho)
  have HLen := WirS.hide t.len
  have HSL : Hid ((sumL (hin t)).length = 32) := WirS.hide (sumL_len _)
  have HS := WirS.hide (fun (U : World) (va : Option Addr) (n c : Nat) (hv : BIn U (.slice va n c) (hin t)) => BlkSe.rsum_any U va n c (hin t) hv hr (by obtain ⟨_, _, e, _⟩ := hv; cases e; simp [hin]; omega))
  have HK := WirS.hide (fun (U U' : World) (d s : Value) (h : NO w U d [72]) (h2 : BIn U s (hform t)) => cat h h2 (by simp; omega))
  have HI := WirS.hide (show [72] ++ hform t = hin t from rfl)
  clear ho hlen hr
  have hb0 := bag_box (w0 := w) (T := 58) (cs := t.cells) (X := w.heap.size) (Bag.nil (Below.refl _ _)) rfl (w' := w.alloc (.cells t.cells.toArray 58)) (At.new _ _ _) (Below.alloc (Below.refl _ _) (Nat.le_refl _) _)
  go_enter Tryd.func34, Tryd.ntmps34
  go_upto_region 0 with fail
  refine wp_region_lit ?_
  refine sV (.pointer (some ⟨w.heap.size, 0, none⟩)) (w.alloc (.cells t.cells.toArray 58)) (by kernel_rfl) (by kernel_rfl) ?_
  simp only [Act.put, List.setIfInBounds_toArray, List.set_cons_succ, List.set_cons_zero]
  obtain ⟨A, eA⟩ : ∃ A, w.heap.size = A := ⟨_, rfl⟩
  rw [eA] at hb0 ⊢
  clear eA
  generalize World.alloc w _ = x0 at *
  refine sV (.pointer (some ⟨x0.heap.size, 0, none⟩)) (x0.alloc (.cells (b8 (List.replicate 32 0)).toArray 26)) (by kernel_rfl) (alH _ _ (by rfl) x0) ?_
  simp only [Act.put, List.setIfInBounds_toArray, List.set_cons_succ, List.set_cons_zero]
  obtain ⟨R, eR⟩ : ∃ A, x0.heap.size = A := ⟨_, rfl⟩
  have hb1 := bag_box (T := 26) (cs := b8 (List.replicate 32 0)) (X := R) hb0 eR.symm (w' := x0.alloc (.cells (b8 (List.replicate 32 0)).toArray 26)) (by rw [← eR]; exact At.new _ _ _) (Below.alloc (Below.refl _ _) (Nat.le_refl _) _)
  rw [eR]
  clear eR hb0
  generalize World.alloc x0 _ = x1 at *
  have H1 := WirS.hide hb1
  clear hb1
  go_upto_region 1 with fail
  refine wp_region_lit ?_
  refine sL (by kernel_rfl) _ _ (by rfl) _ (by kernel_rfl) H1.out.swap.head _ _ Tryd.underlying58 rfl (by kernel_rfl) (by rw [HLen.out]) ?_
  simp only [Act.put, List.setIfInBounds_toArray, List.set_cons_succ, List.set_cons_zero]
  refine sCx (by kernel_rfl) (by kernel_rfl) (HC.out x1) ?_
  rintro e x2 ⟨va, vn, vc, rfl, hv, hn, hb⟩
  refine ⟨_, rfl, ?_⟩
  simp only [Act.put, List.setIfInBounds_toArray, List.set_cons_succ, List.set_cons_zero]
  have H2 := WirS.hide (bag_own H1.out hv hn hb)
  clear hb H1 hv hn
  go_upto_region 4 with fail
  refine wp_region_lit ?_
  have h72 := no_one w x2 72 H2.out.low
  obtain ⟨a1, m1, c1, U1, hm1, r1, no1, hfr⟩ := HK.out _ x2 _ (.slice va vn vc) h72 ((WirM.Own.bin H2.out.head).below (Below.alloc (Below.refl _ _) (Nat.le_refl _) _))
  rw [HI.out] at no1
  have H3 : Hid (Bag w U1 [box 26 R (b8 (List.replicate 32 0)), box 58 A t.cells]) := by
    have hbx : Below x2.heap.size x2 (x2.alloc (.cells #[.int .u8 72] 5)) := Below.alloc (Below.refl _ _) (Nat.le_refl _) _
    exact WirS.hide (H2.out.drop.more (hbx.trans (hfr.below hbx.size (fun k hk hx => by cases hx; exact absurd hk (Nat.lt_irrefl _)))))
  clear hfr
  refine sV (.slice (some ⟨x2.heap.size, 0, none⟩) 1 1) (x2.alloc (.cells #[.int .u8 72] 5)) (by kernel_rfl) (by kernel_rfl) ?_
  simp only [Act.put, List.setIfInBounds_toArray, List.set_cons_succ, List.set_cons_zero]
  refine sV (.slice va vn vc) (x2.alloc (.cells #[.int .u8 72] 5)) (by kernel_rfl) (by kernel_rfl) ?_
  simp only [Act.put, List.setIfInBounds_toArray, List.set_cons_succ, List.set_cons_zero]
  refine sA (by kernel_rfl) 22 22 _ _ (by rfl) (.slice (some ⟨x2.heap.size, 0, none⟩) 1 1) (.slice va vn vc) (by kernel_rfl) (by kernel_rfl) (.slice a1 m1 c1) (U1) r1 ?_
  simp only [Act.put, List.setIfInBounds_toArray, List.set_cons_succ, List.set_cons_zero]
  refine sC (R := fun w' => Below U1.heap.size U1 w') (by kernel_rfl) (by kernel_rfl) (HS.out U1 _ _ _ (WirM.Own.bin no1.1)) ?_
  rintro x3 hb
  simp only [Act.put, List.setIfInBounds_toArray, List.set_cons_succ, List.set_cons_zero]
  have H4 := WirS.hide (H3.out.more hb)
  clear hb H3 r1 no1 h72 hm1 H2
  refine stepStore (by rfl) _ _ _ (by rfl) R (b8 (sumL (hin t))) (by kernel_rfl) (by kernel_rfl) H4.out.head 32 (by kernel_rfl) (by rw [b8_len]; rfl) (by rw [b8_len]; exact HSL.out) (oneCells_b8 _) ?_
  simp only [Act.put]
  have H5 := WirS.hide (bag_row H4.out (b8 (sumL (hin t))))
  clear H4
  generalize World.setRow x3 R _ = x4 at *
  go_wp2_with fail
  exact bodyPost_ret (BlkO.retRow2 H5.out.head Tryd.results34 _ (by rfl) (.int .i64 0) (by rfl) _ 32 Tryd.underlying26 rfl (by kernel_rfl) (by rw [b8_len]; exact HSL.out)) rfl ⟨rfl, H5.out.low⟩
theorem hash_any (w : World) (t : Hd) (hs : t.ch.size ≤ 60) (hr : rng t.hs) :
    Calls Tryd.prog 34 #[.agg t.cells.toArray] w fun e w' => e = .returned (.tuple #[.agg (b8 (HhA.xh t)).toArray, .int .i64 (hchk t)]) ∧ Below w.heap.size w w' := by
  unfold HhA.xh
  by_cases h : hchk t = 0
  · rw [if_pos h, h]
    have ho := ok_of h
    have hl := HhA.form_len ho
    exact hash_ok w t ho (by omega) (fun x hx => by
      rcases List.mem_cons.1 hx with rfl | hx
      · decide
      · exact HdK.form_rng ho hr x hx)
  · rw [if_neg h]
    exact hash_bad w t (by omega) h
/-- What Encode answers as bytes. -/
def fm (t : Hd) : List Int := if hchk t = 0 then hform t else []
theorem enc_any (w : World) (t : Hd) (hs : t.ch.size ≤ 60) : Calls Tryd.prog 32 #[.agg t.cells.toArray] w fun e w' => ∃ va vn vc, e = .returned (.tuple #[.slice va vn vc, .int .i64 (hchk t)]) ∧ NO w w' (.slice va vn vc) (fm t) := by
  unfold fm
  by_cases h : hchk t = 0
  · rw [if_pos h, h]
    exact encode_ok w t (ok_of h)
  · rw [if_neg h]
    exact (encode_bad w t (by omega) h).mono fun e w' ⟨h1, h2⟩ => ⟨none, 0, 0, h1, WrwA.no_nil w w' h2⟩
theorem penc_any (w : World) (t : Hd) (hs : t.ch.size ≤ 60) : Calls Tryd.prog 31 #[.agg t.cells.toArray] w fun e w' => ∃ va vn vc, e = .returned (.tuple #[.slice va vn vc, .int .i64 (hchk t)]) ∧ NO w w' (.slice va vn vc) (fm t) := by
  unfold fm
  by_cases h : hchk t = 0
  · rw [if_pos h, h]
    exact HdE.encode_ok w t (ok_of h)
  · rw [if_neg h]
    exact (HdE.encode_bad w t (by omega) h).mono fun e w' ⟨h1, h2⟩ => ⟨none, 0, 0, h1, WrwA.no_nil w w' h2⟩
theorem fm_rng {t : Hd} (hr : rng t.hs) : rng (fm t) := by
  unfold fm
  by_cases h : hchk t = 0
  · rw [if_pos h]
    exact HdK.form_rng (ok_of h) hr
  · rw [if_neg h]
    exact fun x hx => by cases hx
theorem fm_len (t : Hd) : (fm t).length ≤ 187 := by
  unfold fm
  by_cases h : hchk t = 0
  · rw [if_pos h]
    exact HhA.form_len (ok_of h)
  · rw [if_neg h]
    exact Nat.zero_le _
end HcA
end Go.Proofs.YtfmegeibnjmfpaaDoor
