/-
  A digest, as cells; the digest of no bytes; the counter.
-/
import Derived.Test.YtpambhlhkmkagaaGreatDoorBlkA
namespace Go.Proofs.YtpambhlhkmkagaaGreatDoor
namespace BlkG
open Go.RowKit
open BlkM BlkA
/-- A digest's cells. -/
def dig (n : Int) (h blk : List Int) (held : Int) : List Value := .int .u64 n :: (w32 h ++ (b8 blk ++ [.int .i64 held]))
theorem dig_len (n : Int) (h blk : List Int) (held : Int) (lh : h.length = 8) (lb : blk.length = 64) : (dig n h blk held).length = 74 := by
  simp [dig, w32_len, b8_len, lh, lb]
theorem dig_n (pre : List Value) (n : Int) (h blk : List Int) (held : Int) : (pre ++ dig n h blk held)[pre.length]? = some (.int .u64 n) := by
  simp [dig]
theorem dig_h (pre : List Value) (n : Int) (h blk : List Int) (held : Int) (lh : h.length = 8) (i : Nat) (hi : i < 8) : (pre ++ dig n h blk held)[pre.length + 1 + i]? = some (.int .u32 (h.getD i 0)) := by
  rw [Nat.add_assoc, List.getElem?_append_right (by omega), show pre.length + (1 + i) - pre.length = i + 1 by omega, dig, List.getElem?_cons_succ, List.getElem?_append_left (by rw [w32_len]; omega), w32_get h i (by omega)]
theorem dig_b (pre : List Value) (n : Int) (h blk : List Int) (held : Int) (lh : h.length = 8) (lb : blk.length = 64) (i : Nat) (hi : i < 64) : (pre ++ dig n h blk held)[pre.length + 9 + i]? = some (.int .u8 (blk.getD i 0)) := by
  rw [Nat.add_assoc, List.getElem?_append_right (by omega), show pre.length + (9 + i) - pre.length = (8 + i) + 1 by omega, dig, List.getElem?_cons_succ, List.getElem?_append_right (by rw [w32_len]; omega), w32_len, lh,
    List.getElem?_append_left (by rw [b8_len]; omega), show 8 + i - 8 = i by omega, b8_get blk i (by omega)]
theorem dig_held (pre : List Value) (n : Int) (h blk : List Int) (held : Int) (lh : h.length = 8) (lb : blk.length = 64) : (pre ++ dig n h blk held)[pre.length + 73]? = some (.int .i64 held) := by
  rw [List.getElem?_append_right (by omega), show pre.length + 73 - pre.length = 72 + 1 by omega, dig, List.getElem?_cons_succ, List.getElem?_append_right (by rw [w32_len]; omega), w32_len, lh,
    List.getElem?_append_right (by rw [b8_len]; omega), b8_len, lb]
  rfl
theorem set_n (pre : List Value) (n m : Int) (h blk : List Int) (held : Int) : (pre ++ dig n h blk held).set pre.length (.int .u64 m) = pre ++ dig m h blk held := by
  rw [List.set_append_right _ _ (by omega)]
  simp [dig]
theorem set_h (pre : List Value) (n : Int) (h blk : List Int) (held : Int) (lh : h.length = 8) (i : Nat) (hi : i < 8) (x : Int) : (pre ++ dig n h blk held).set (pre.length + 1 + i) (.int .u32 x) = pre ++ dig n (h.set i x) blk held := by
  rw [Nat.add_assoc, List.set_append_right _ _ (by omega), show pre.length + (1 + i) - pre.length = i + 1 by omega, dig, List.set_cons_succ, List.set_append_left _ _ (by rw [w32_len]; omega), w32_set]
  rfl
theorem set_b (pre : List Value) (n : Int) (h blk : List Int) (held : Int) (lh : h.length = 8) (lb : blk.length = 64) (i : Nat) (hi : i < 64) (x : Int) : (pre ++ dig n h blk held).set (pre.length + 9 + i) (.int .u8 x) = pre ++ dig n h (blk.set i x) held := by
  rw [Nat.add_assoc, List.set_append_right _ _ (by omega), show pre.length + (9 + i) - pre.length = (8 + i) + 1 by omega, dig, List.set_cons_succ, List.set_append_right _ _ (by rw [w32_len]; omega), w32_len, lh,
    List.set_append_left _ _ (by rw [b8_len]; omega), show 8 + i - 8 = i by omega, b8_set]
  rfl
theorem set_held (pre : List Value) (n : Int) (h blk : List Int) (held x : Int) (lh : h.length = 8) (lb : blk.length = 64) : (pre ++ dig n h blk held).set (pre.length + 73) (.int .i64 x) = pre ++ dig n h blk x := by
  rw [List.set_append_right _ _ (by omega), show pre.length + 73 - pre.length = 72 + 1 by omega, dig, List.set_cons_succ, List.set_append_right _ _ (by rw [w32_len]; omega), w32_len, lh,
    List.set_append_right _ _ (by rw [b8_len]; omega), b8_len, lb]
  rfl

/-- The package's eight words lie in their variable. -/
def Glob (w : World) : Prop := 0 < w.heap.size ∧ ∀ i, i < 8 → w.cell? ⟨0, i, none⟩ = some (.int .u32 (ini.getD i 0))
theorem Glob.below {B : Nat} {w w' : World} (h : Glob w) (hb : Below B w w') (hB : 0 < B) : Glob w' :=
  ⟨Nat.lt_of_lt_of_le h.1 hb.size, fun i hi => (hb.cell (p := ⟨0, i, none⟩) hB).trans (h.2 i hi)⟩
theorem Glob.chg {w w' : World} {V : Nat} {cs : List Value} (h : Glob w) (hc : Chg w V cs w') (hV : V ≠ 0) : Glob w' := by
  refine ⟨Nat.lt_of_lt_of_le h.1 hc.size, fun i hi => ?_⟩
  have h1 := Below.cell hc (p := ⟨0, i, none⟩) h.1
  rw [h1, cell_setRow_other w V _ _ (by simpa using Ne.symm hV)]
  exact h.2 i hi
def n0 : List Int := List.replicate 64 0
def d0 : List Value := dig 0 h0 n0 0
def z0 : List Value := dig 0 (List.replicate 8 0) n0 0
def z1 : List Value := dig 0 ini n0 0
theorem stepVal {P : Program} {ops : Array Oper} {rest : List Oper} {o : Oper} {a : Act} {w w' : World} {Q : Exit → Act → World → Prop} {v : Value} (hgd : o.guard = none) (hrun : (execOp a.eval o).run P w = .ok (.value v) w')
    (h : wpList P ops Q rest (a.put o.dst v) w') : wpList P ops Q (o :: rest) a w :=
  wpList_plain hgd fun _ hK => by
    unfold Oper.wp
    rw [hrun]
    exact hK _ _ h
theorem al (a : Operand → Value) (o : Oper) (ho : o.op = Op.alloc 101) (W : World) : (execOp a o).run Tryz.prog W = .ok (.value (.pointer (some ⟨W.heap.size, 0, none⟩))) (W.alloc (.cells z0.toArray 101)) := by
  unfold execOp
  rw [ho]
  kernel_rfl
set_option maxRecDepth 100000 in
set_option maxHeartbeats 4000000 in
theorem start_any (w : World) (hg : Glob w) : Calls Tryz.prog 57 #[] w fun e w' => e = .returned (.agg d0.toArray) ∧ Below w.heap.size w w' := by
  obtain ⟨h00, hg⟩ := hg
  have g0 : w.cell? ⟨0, 0, none⟩ = some (.int .u32 1779033703) := hg 0 (by omega)
  have g1 : w.cell? ⟨0, 1, none⟩ = some (.int .u32 3144134277) := hg 1 (by omega)
  have g2 : w.cell? ⟨0, 2, none⟩ = some (.int .u32 1013904242) := hg 2 (by omega)
  have g3 : w.cell? ⟨0, 3, none⟩ = some (.int .u32 2773480762) := hg 3 (by omega)
  have g4 : w.cell? ⟨0, 4, none⟩ = some (.int .u32 1359893119) := hg 4 (by omega)
  have g5 : w.cell? ⟨0, 5, none⟩ = some (.int .u32 2600822924) := hg 5 (by omega)
  have g6 : w.cell? ⟨0, 6, none⟩ = some (.int .u32 528734635) := hg 6 (by omega)
  have g7 : w.cell? ⟨0, 7, none⟩ = some (.int .u32 1541459225) := hg 7 (by omega)
  have hR : w.rangeAt 0 0 (w32 ini) := fun j v hv => by
    have hj : j < 8 := by
      have := (List.getElem?_eq_some_iff.1 hv).1
      simpa [w32_len, ini] using this
    rw [w32_get ini j hj] at hv
    rw [Nat.zero_add, hg j hj, ← hv]
  have HR := hide hR
  obtain ⟨W0, eW0⟩ : ∃ X, X = w.alloc (.cells z0.toArray 101) := ⟨_, rfl⟩
  have hb0 : Below w.heap.size w W0 := by rw [eW0]; exact (by repeat (first | assumption | exact Below.refl _ _ | refine Below.setCell ?_ (by first | omega | (simp; done) | (simp; omega)) _ | refine below_drewN ?_ _ | refine Below.drew ?_ | refine Below.alloc ?_ (by first | omega | (simp; done) | (simp; omega)) _ | refine Below.trans ?_ (Below.mono (by assumption) (by first | omega | (simp; done) | (simp; omega)))))
  have hR0 : W0.rangeAt 0 0 (w32 ini) := fun j v hv => (hb0.cell (p := ⟨0, 0 + j, none⟩) h00).trans (hR j v hv)
  have hz0 : At W0 w.heap.size 101 z0 := by rw [eW0]; exact At.new _ _ _
  have hs0 : W0.heap.size = w.heap.size + 1 := by rw [eW0]; simp
  have hz1 : At (W0.alloc (.cells z0.toArray 101)) (w.heap.size + 1) 101 z0 := by rw [← hs0]; exact At.new _ _ _
  have hz2 := hz1.put z1
  have cx := hz2.cell 1
  have fx := hz2.frozen 1
  have hz3 := hz2.setCell 1 (.int .u32 (bits .xor .u32 1779033703 16842784))
  have hz4 : At ((((W0.alloc (.cells z0.toArray 101)).setRow (w.heap.size + 1) z1.toArray).setCell ⟨w.heap.size + 1, 1, none⟩ (.int .u32 (bits .xor .u32 1779033703 16842784)))) (w.heap.size + 1) 101 d0 := hz3
  obtain ⟨W2, eW2⟩ : ∃ X, X = (W0.alloc (.cells z0.toArray 101)).setRow (w.heap.size + 1) z1.toArray := ⟨_, rfl⟩
  obtain ⟨W3, eW3⟩ : ∃ X, X = W2.setCell ⟨w.heap.size + 1, 1, none⟩ (.int .u32 (bits .xor .u32 1779033703 16842784)) := ⟨_, rfl⟩
  rw [← eW2] at cx fx hz4
  rw [← eW3] at hz4
  have hzr : At W3 w.heap.size 101 z0 := by
    rw [eW3, eW2]
    exact ((hz0.alloc _).other _ (by omega)).setCell_other (by omega) _ _
  have hb3 : Below w.heap.size w W3 := by
    rw [eW3, eW2]
    exact Below.setCell (Below.setRowOwn (Below.alloc hb0 (by omega) _) (by omega) _) (by simp) _
  have HB3 := hide (Below.setRowOwn hb3 (Nat.le_refl w.heap.size) d0.toArray)
  have H4 := hide hz4
  have HZR := hide hzr
  have HRET := hide (hzr.put d0)
  have HS0 := hide hs0
  have HR0 := hide hR0
  have HZ1 := hide hz1
  have c1 : W2.cell? ⟨w.heap.size + 1, 1, none⟩ = some (.int .u32 1779033703) := cx
  clear hg hR HR hb0 hR0 hz0 hs0 hz1 hz2 hz3 hz4 hzr hb3 cx
  have E0 := hide eW0
  have E2 := hide eW2
  have E3 := hide eW3
  clear eW0 eW2 eW3
  go_enter Tryz.func57, Tryz.ntmps57
  go_upto_region 0 with (fail)
  refine wp_region_lit ?_
  refine stepVal (v := .pointer (some ⟨w.heap.size, 0, none⟩)) (w' := W0) (by rfl) (by rw [E0.out]; exact al _ _ rfl w) ?_
  go_upto_region 1 with (fail)
  refine wp_region_lit ?_
  refine wpList_load_mid (by rfl) _ _ (by rfl) 0 0 (by rfl) (w32 ini) (.array 8 97) HR0.out Tryz.underlying98 (by rfl) (by kernel_rfl) ?_
  refine stepVal (v := .agg z1.toArray) (w' := W0) (by rfl) (by kernel_rfl) ?_
  refine stepVal (v := .pointer (some ⟨w.heap.size + 1, 0, none⟩)) (w' := W0.alloc (.cells z0.toArray 101)) (by rfl) (by have h := fun a o ho => al a o ho W0; simp only [HS0.out] at h; exact h _ _ rfl) ?_
  refine stepStore (by rfl) _ _ _ (by rfl) _ z1 (by rfl) (by rfl) HZ1.out 74 (by kernel_rfl) (by rfl) (by rfl) (by kernel_rfl) ?_
  rw [← E2.out]
  go_upto_region 2 with (fail)
  go_upto_region 3 with (fail)
  rw [← E3.out]
  refine wp_region_lit ?_
  refine stepLoad (by rfl) _ _ (by rfl) _ (by rfl) H4.out _ 74 Tryz.underlying101 rfl (by kernel_rfl) (by rfl) ?_
  refine stepStore (by rfl) _ _ _ (by rfl) _ _ (by rfl) (by rfl) HZR.out 74 (by kernel_rfl) (by rfl) (by rfl) (by kernel_rfl) ?_
  go_wp2_with fail
  exact bodyPost_ret (retRow HRET.out Tryz.results57 _ (by rfl) _ 74 Tryz.underlying101 rfl (by kernel_rfl) (by rfl)) rfl ⟨rfl, HB3.out⟩

set_option maxHeartbeats 1000000 in
theorem count_any (w : World) (D off : Nat) (T : TypeId) (pre : List Value) (n : Int) (h blk : List Int) (held : Int) (m : Nat) (hat : At w D T (pre ++ dig n h blk held)) (hoff : pre.length = off) (hn0 : 0 ≤ n) (hn : n + m < 18446744073709551616) :
    Calls Tryz.prog 80 #[.pointer (some ⟨D, off, none⟩), .int .i64 (m : Int)] w fun e w' => e = .returned (.tuple #[]) ∧ Chg w D (pre ++ dig (n + m) h blk held) w' := by
  have c0 : w.cell? ⟨D, off, none⟩ = some (.int .u64 n) := by rw [hat.cell, ← hoff, dig_n]
  have f0 := hat.frozen off
  have HC := hide (show Chg w D (pre ++ dig (n + m) h blk held) (w.setCell ⟨D, off, none⟩ (.int .u64 (n + m))) by
    have := (Chg.self hat (Below.refl _ _)).setCell hat off (.int .u64 (n + m))
    rw [← hoff, set_n] at this
    rw [← hoff]
    exact this)
  have hm : (m : Int) % 18446744073709551616 = (m : Int) := by omega
  clear hat hoff
  go_enter Tryz.func80, Tryz.ntmps80
  go_wp2
  go_end0
  exact ⟨rfl, HC.out⟩
end BlkG
end Go.Proofs.YtpambhlhkmkagaaGreatDoor
