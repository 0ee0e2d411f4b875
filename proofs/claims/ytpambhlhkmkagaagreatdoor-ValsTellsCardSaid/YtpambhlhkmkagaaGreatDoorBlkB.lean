/-
  Mixing, of the document's answer.
-/
import Derived.Test.YtpambhlhkmkagaaGreatDoorBlkA
namespace Go.Proofs.YtpambhlhkmkagaaGreatDoor
namespace BlkB
open Go.RowKit
open BlkM BlkA
set_option maxRecDepth 10000 in
set_option maxHeartbeats 1000000 in
theorem rmix_any (w : World) (a b c d : Nat) (v : List Int) (x y : Int) (hv : v.length = 16) (ha : a < 16) (hb : b < 16) (hc : c < 16) (hd : d < 16)
    (ab : a ≠ b) (ac : a ≠ c) (ad' : a ≠ d) (bc : b ≠ c) (bd : b ≠ d) (cd' : c ≠ d) :
    Calls Tryz.prog 82 #[.agg (w32 v).toArray, .int .i64 (a : Int), .int .i64 (b : Int), .int .i64 (c : Int), .int .i64 (d : Int), .int .u32 x, .int .u32 y] w fun e w' => e = .returned (.agg (w32 (mixL v a b c d x y)).toArray) ∧ Below w.heap.size w w' := by
  obtain ⟨A, hA⟩ : ∃ A, v.getD a 0 = A := ⟨_, rfl⟩
  obtain ⟨B, hB⟩ : ∃ B, v.getD b 0 = B := ⟨_, rfl⟩
  obtain ⟨C, hC⟩ : ∃ C, v.getD c 0 = C := ⟨_, rfl⟩
  obtain ⟨D, hD⟩ : ∃ D, v.getD d 0 = D := ⟨_, rfl⟩
  obtain ⟨a1, e_a1⟩ : ∃ z, (A + B + x) % 4294967296 = z := ⟨_, rfl⟩
  obtain ⟨d1, e_d1⟩ : ∃ z, rt 16 (bits .xor .u32 D a1) = z := ⟨_, rfl⟩
  obtain ⟨c1, e_c1⟩ : ∃ z, (C + d1) % 4294967296 = z := ⟨_, rfl⟩
  obtain ⟨b1, e_b1⟩ : ∃ z, rt 12 (bits .xor .u32 B c1) = z := ⟨_, rfl⟩
  obtain ⟨a2, e_a2⟩ : ∃ z, (a1 + b1 + y) % 4294967296 = z := ⟨_, rfl⟩
  obtain ⟨d2, e_d2⟩ : ∃ z, rt 8 (bits .xor .u32 d1 a2) = z := ⟨_, rfl⟩
  obtain ⟨c2, e_c2⟩ : ∃ z, (c1 + d2) % 4294967296 = z := ⟨_, rfl⟩
  obtain ⟨b2, e_b2⟩ : ∃ z, rt 7 (bits .xor .u32 b1 c2) = z := ⟨_, rfl⟩
  have HP := hide (show mixL v a b c d x y = ((((((((v.set a a1).set d d1).set c c1).set b b1).set a a2).set d d2).set c c2).set b b2) by
    unfold mixL
    simp only [hA, hB, hC, hD]
    rw [show b2 = rt 7 (xo b1 c2) from e_b2.symm, show c2 = ad c1 d2 from e_c2.symm.trans (ad2 _ _), show d2 = rt 8 (xo d1 a2) from e_d2.symm, show a2 = ad a1 (ad b1 y) from e_a2.symm.trans (ad3' _ _ _),
      show b1 = rt 12 (xo B c1) from e_b1.symm, show c1 = ad C d1 from e_c1.symm.trans (ad2 _ _), show d1 = rt 16 (xo D a1) from e_d1.symm, show a1 = ad A (ad B x) from e_a1.symm.trans (ad3' _ _ _)])
  have hlen : (w32 (mixL v a b c d x y)).length = 16 := by rw [w32_len, mixL_len, hv]
  rw [HP.out] at hlen ⊢
  obtain ⟨L, hL⟩ : ∃ L, ((((((((v.set a a1).set d d1).set c c1).set b b1).set a a2).set d d2).set c c2).set b b2) = L := ⟨_, rfl⟩
  rw [hL] at hlen ⊢
  have HL := hide hL
  have HV := hide hv
  have HA := hide hA
  have HBB := hide hB
  have HCC := hide hC
  have HD := hide hD
  have HLEN := hide hlen
  clear hv hA hB hC hD HP hlen hL
  have ia : (a : Int) < 16 := by omega
  have ib : (b : Int) < 16 := by omega
  have ic : (c : Int) < 16 := by omega
  have id' : (d : Int) < 16 := by omega
  go_enter Tryz.func82, Tryz.ntmps82
  go_wp2_with fail
  obtain ⟨W0, eW0⟩ : ∃ X, X = ((w.alloc (.cells (w32 v).toArray 131)).alloc (.cells #[Value.int .u32 0, Value.int .u32 0, Value.int .u32 0, Value.int .u32 0, Value.int .u32 0, Value.int .u32 0, Value.int .u32 0, Value.int .u32 0, Value.int .u32 0, Value.int .u32 0, Value.int .u32 0, Value.int .u32 0, Value.int .u32 0, Value.int .u32 0, Value.int .u32 0, Value.int .u32 0] 131)) := ⟨_, rfl⟩
  rw [← eW0]
  have hat : At W0 w.heap.size 131 (w32 v) := by rw [eW0]; exact At.alloc (At.new w _ _) _
  have hz : At W0 (w.heap.size + 1) 131 (w32 (List.replicate 16 0)) := by
    rw [eW0]
    have := At.new (w.alloc (.cells (w32 v).toArray 131)) 131 (w32 (List.replicate 16 0))
    rw [World.size_alloc] at this
    exact this
  have hB0 : Below w.heap.size w W0 := by rw [eW0]; exact Below.alloc (Below.alloc (Below.refl _ _) (Nat.le_refl _) _) (by simp) _
  have hs0 : W0.heap.size = w.heap.size + 2 := by rw [eW0]; simp
  have ca : W0.cell? ⟨w.heap.size, a, none⟩ = some (.int .u32 A) := by rw [hat.cell, w32_get v a (by rw [HV.out]; exact ha), HA.out]
  have cb : W0.cell? ⟨w.heap.size, b, none⟩ = some (.int .u32 B) := by rw [hat.cell, w32_get v b (by rw [HV.out]; exact hb), HBB.out]
  have cc : W0.cell? ⟨w.heap.size, c, none⟩ = some (.int .u32 C) := by rw [hat.cell, w32_get v c (by rw [HV.out]; exact hc), HCC.out]
  have cd : W0.cell? ⟨w.heap.size, d, none⟩ = some (.int .u32 D) := by rw [hat.cell, w32_get v d (by rw [HV.out]; exact hd), HD.out]
  have fa := hat.frozen a
  have fb := hat.frozen b
  have fc := hat.frozen c
  have fd := hat.frozen d
  have HC := hide (Chg.self hat (Below.refl _ _))
  have HAT := hide hat
  have HZ := hide hz
  have HB0 := hide hB0
  have HS0 := hide hs0
  clear hat hz hB0 hs0 eW0 HV HA HBB HCC HD
  go_cut [] (fun wx => wx.cell? ⟨w.heap.size, a, none⟩ = some (.int .u32 a1) ∧ wx.cell? ⟨w.heap.size, b, none⟩ = some (.int .u32 B) ∧ wx.cell? ⟨w.heap.size, c, none⟩ = some (.int .u32 C) ∧ wx.cell? ⟨w.heap.size, d, none⟩ = some (.int .u32 D) ∧ Hid (Chg W0 w.heap.size (w32 (v.set a a1)) wx))
  case first =>
    go_region
    all_goals (go_wp2_with fail; go_meet; exact ⟨cell_same _ _ _ _ ca, cell_far _ _ _ _ _ _ cb ab, cell_far _ _ _ _ _ _ cc ac, cell_far _ _ _ _ _ _ cd ad', by rw [← w32_set]; exact (HC.out.setCell HAT.out a _).drew⟩)
  case rest =>
  clear HC ca cb cc cd fa fb fc fd
  obtain ⟨ca, cb, cc, cd, HC⟩ := hcut
  have fa := (HC.out.at HAT.out).frozen a
  have fb := (HC.out.at HAT.out).frozen b
  have fc := (HC.out.at HAT.out).frozen c
  have fd := (HC.out.at HAT.out).frozen d
  go_wp2_with fail
  go_cut [] (fun wx => wx.cell? ⟨w.heap.size, a, none⟩ = some (.int .u32 a1) ∧ wx.cell? ⟨w.heap.size, b, none⟩ = some (.int .u32 B) ∧ wx.cell? ⟨w.heap.size, c, none⟩ = some (.int .u32 C) ∧ wx.cell? ⟨w.heap.size, d, none⟩ = some (.int .u32 d1) ∧ Hid (Chg W0 w.heap.size (w32 ((v.set a a1).set d d1)) wx))
  case first =>
    go_region_with ((go_at_call 97; refine (turn16 _ _).mono ?_; rintro e w1 ⟨rfl, rfl⟩))
    all_goals (go_wp2_with fail; go_meet; exact ⟨cell_far _ _ _ _ _ _ ca (Ne.symm ad'), cell_far _ _ _ _ _ _ cb (Ne.symm bd), cell_far _ _ _ _ _ _ cc (Ne.symm cd'), cell_same _ _ _ _ cd, by rw [← w32_set]; exact (HC.out.setCell HAT.out d _).drew⟩)
  case rest =>
  clear HC ca cb cc cd fa fb fc fd
  obtain ⟨ca, cb, cc, cd, HC⟩ := hcut
  have fa := (HC.out.at HAT.out).frozen a
  have fb := (HC.out.at HAT.out).frozen b
  have fc := (HC.out.at HAT.out).frozen c
  have fd := (HC.out.at HAT.out).frozen d
  go_wp2_with fail
  go_cut [] (fun wx => wx.cell? ⟨w.heap.size, a, none⟩ = some (.int .u32 a1) ∧ wx.cell? ⟨w.heap.size, b, none⟩ = some (.int .u32 B) ∧ wx.cell? ⟨w.heap.size, c, none⟩ = some (.int .u32 c1) ∧ wx.cell? ⟨w.heap.size, d, none⟩ = some (.int .u32 d1) ∧ Hid (Chg W0 w.heap.size (w32 (((v.set a a1).set d d1).set c c1)) wx))
  case first =>
    go_region
    all_goals (go_wp2_with fail; go_meet; exact ⟨cell_far _ _ _ _ _ _ ca (Ne.symm ac), cell_far _ _ _ _ _ _ cb (Ne.symm bc), cell_same _ _ _ _ cc, cell_far _ _ _ _ _ _ cd cd', by rw [← w32_set]; exact (HC.out.setCell HAT.out c _).drew⟩)
  case rest =>
  clear HC ca cb cc cd fa fb fc fd
  obtain ⟨ca, cb, cc, cd, HC⟩ := hcut
  have fa := (HC.out.at HAT.out).frozen a
  have fb := (HC.out.at HAT.out).frozen b
  have fc := (HC.out.at HAT.out).frozen c
  have fd := (HC.out.at HAT.out).frozen d
  go_wp2_with fail
  go_cut [] (fun wx => wx.cell? ⟨w.heap.size, a, none⟩ = some (.int .u32 a1) ∧ wx.cell? ⟨w.heap.size, b, none⟩ = some (.int .u32 b1) ∧ wx.cell? ⟨w.heap.size, c, none⟩ = some (.int .u32 c1) ∧ wx.cell? ⟨w.heap.size, d, none⟩ = some (.int .u32 d1) ∧ Hid (Chg W0 w.heap.size (w32 ((((v.set a a1).set d d1).set c c1).set b b1)) wx))
  case first =>
    go_region_with ((go_at_call 97; refine (turn12 _ _).mono ?_; rintro e w1 ⟨rfl, rfl⟩))
    all_goals (go_wp2_with fail; go_meet; exact ⟨cell_far _ _ _ _ _ _ ca (Ne.symm ab), cell_same _ _ _ _ cb, cell_far _ _ _ _ _ _ cc bc, cell_far _ _ _ _ _ _ cd bd, by rw [← w32_set]; exact (HC.out.setCell HAT.out b _).drew⟩)
  case rest =>
  clear HC ca cb cc cd fa fb fc fd
  obtain ⟨ca, cb, cc, cd, HC⟩ := hcut
  have fa := (HC.out.at HAT.out).frozen a
  have fb := (HC.out.at HAT.out).frozen b
  have fc := (HC.out.at HAT.out).frozen c
  have fd := (HC.out.at HAT.out).frozen d
  go_wp2_with fail
  go_cut [] (fun wx => wx.cell? ⟨w.heap.size, a, none⟩ = some (.int .u32 a2) ∧ wx.cell? ⟨w.heap.size, b, none⟩ = some (.int .u32 b1) ∧ wx.cell? ⟨w.heap.size, c, none⟩ = some (.int .u32 c1) ∧ wx.cell? ⟨w.heap.size, d, none⟩ = some (.int .u32 d1) ∧ Hid (Chg W0 w.heap.size (w32 (((((v.set a a1).set d d1).set c c1).set b b1).set a a2)) wx))
  case first =>
    go_region
    all_goals (go_wp2_with fail; go_meet; exact ⟨cell_same _ _ _ _ ca, cell_far _ _ _ _ _ _ cb ab, cell_far _ _ _ _ _ _ cc ac, cell_far _ _ _ _ _ _ cd ad', by rw [← w32_set]; exact (HC.out.setCell HAT.out a _).drew⟩)
  case rest =>
  clear HC ca cb cc cd fa fb fc fd
  obtain ⟨ca, cb, cc, cd, HC⟩ := hcut
  have fa := (HC.out.at HAT.out).frozen a
  have fb := (HC.out.at HAT.out).frozen b
  have fc := (HC.out.at HAT.out).frozen c
  have fd := (HC.out.at HAT.out).frozen d
  go_wp2_with fail
  go_cut [] (fun wx => wx.cell? ⟨w.heap.size, a, none⟩ = some (.int .u32 a2) ∧ wx.cell? ⟨w.heap.size, b, none⟩ = some (.int .u32 b1) ∧ wx.cell? ⟨w.heap.size, c, none⟩ = some (.int .u32 c1) ∧ wx.cell? ⟨w.heap.size, d, none⟩ = some (.int .u32 d2) ∧ Hid (Chg W0 w.heap.size (w32 ((((((v.set a a1).set d d1).set c c1).set b b1).set a a2).set d d2)) wx))
  case first =>
    go_region_with ((go_at_call 97; refine (turn8 _ _).mono ?_; rintro e w1 ⟨rfl, rfl⟩))
    all_goals (go_wp2_with fail; go_meet; exact ⟨cell_far _ _ _ _ _ _ ca (Ne.symm ad'), cell_far _ _ _ _ _ _ cb (Ne.symm bd), cell_far _ _ _ _ _ _ cc (Ne.symm cd'), cell_same _ _ _ _ cd, by rw [← w32_set]; exact (HC.out.setCell HAT.out d _).drew⟩)
  case rest =>
  clear HC ca cb cc cd fa fb fc fd
  obtain ⟨ca, cb, cc, cd, HC⟩ := hcut
  have fa := (HC.out.at HAT.out).frozen a
  have fb := (HC.out.at HAT.out).frozen b
  have fc := (HC.out.at HAT.out).frozen c
  have fd := (HC.out.at HAT.out).frozen d
  go_wp2_with fail
  go_cut [] (fun wx => wx.cell? ⟨w.heap.size, a, none⟩ = some (.int .u32 a2) ∧ wx.cell? ⟨w.heap.size, b, none⟩ = some (.int .u32 b1) ∧ wx.cell? ⟨w.heap.size, c, none⟩ = some (.int .u32 c2) ∧ wx.cell? ⟨w.heap.size, d, none⟩ = some (.int .u32 d2) ∧ Hid (Chg W0 w.heap.size (w32 (((((((v.set a a1).set d d1).set c c1).set b b1).set a a2).set d d2).set c c2)) wx))
  case first =>
    go_region
    all_goals (go_wp2_with fail; go_meet; exact ⟨cell_far _ _ _ _ _ _ ca (Ne.symm ac), cell_far _ _ _ _ _ _ cb (Ne.symm bc), cell_same _ _ _ _ cc, cell_far _ _ _ _ _ _ cd cd', by rw [← w32_set]; exact (HC.out.setCell HAT.out c _).drew⟩)
  case rest =>
  clear HC ca cb cc cd fa fb fc fd
  obtain ⟨ca, cb, cc, cd, HC⟩ := hcut
  have fa := (HC.out.at HAT.out).frozen a
  have fb := (HC.out.at HAT.out).frozen b
  have fc := (HC.out.at HAT.out).frozen c
  have fd := (HC.out.at HAT.out).frozen d
  go_wp2_with fail
  go_cut [] (fun wx => wx.cell? ⟨w.heap.size, a, none⟩ = some (.int .u32 a2) ∧ wx.cell? ⟨w.heap.size, b, none⟩ = some (.int .u32 b2) ∧ wx.cell? ⟨w.heap.size, c, none⟩ = some (.int .u32 c2) ∧ wx.cell? ⟨w.heap.size, d, none⟩ = some (.int .u32 d2) ∧ Hid (Chg W0 w.heap.size (w32 ((((((((v.set a a1).set d d1).set c c1).set b b1).set a a2).set d d2).set c c2).set b b2)) wx))
  case first =>
    go_region_with ((go_at_call 97; refine (turn7 _ _).mono ?_; rintro e w1 ⟨rfl, rfl⟩))
    all_goals (go_wp2_with fail; go_meet; exact ⟨cell_far _ _ _ _ _ _ ca (Ne.symm ab), cell_same _ _ _ _ cb, cell_far _ _ _ _ _ _ cc bc, cell_far _ _ _ _ _ _ cd bd, by rw [← w32_set]; exact (HC.out.setCell HAT.out b _).drew⟩)
  case rest =>
  clear HC ca cb cc cd fa fb fc fd
  obtain ⟨ca, cb, cc, cd, HC⟩ := hcut
  have fa := (HC.out.at HAT.out).frozen a
  have fb := (HC.out.at HAT.out).frozen b
  have fc := (HC.out.at HAT.out).frozen c
  have fd := (HC.out.at HAT.out).frozen d
  have hE := HC.out.at HAT.out
  have hZ := HC.out.other HZ.out (by omega)
  rw [HL.out] at hE
  have HE := hide hE
  have HZ2 := hide hZ
  have hb1 : Below w.heap.size w wc := HB0.out.trans (HC.out.below_of (Nat.le_refl _) (by have := HS0.out; omega))
  have HBz := hide (Below.setRowOwn hb1 (Nat.le_succ w.heap.size) (w32 L).toArray)
  have HZ3 := hide (hZ.put (w32 L))
  clear hE hZ hb1 ca cb cc cd fa fb fc fd HC HAT HB0
  go_upto_region 9 with (fail)
  refine wp_region_lit ?_
  refine stepLoad (by rfl) _ _ (by rfl) _ (by rfl) HE.out (.array 16 97) 16 Tryz.underlying131 rfl (by kernel_rfl) HLEN.out ?_
  refine stepStore (by rfl) _ _ _ (by rfl) _ _ (by rfl) (by rfl) HZ2.out 16 (by kernel_rfl) (by rw [w32_len]; rfl) HLEN.out (oneCells_w32 _) ?_
  go_wp2_with fail
  exact bodyPost_ret (retRow HZ3.out Tryz.results82 _ (by rfl) (.array 16 97) 16 Tryz.underlying131 rfl (by kernel_rfl) HLEN.out) rfl ⟨rfl, HBz.out⟩
end BlkB
end Go.Proofs.YtpambhlhkmkagaaGreatDoor
