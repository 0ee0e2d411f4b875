/-
  Mixing, of package blake.
-/
import Derived.Test.YtpambhlhkmkagaaGreatDoorBlkA
namespace Go.Proofs.YtpambhlhkmkagaaGreatDoor
namespace BlkC
open Go.RowKit
open BlkM BlkA
set_option maxRecDepth 10000 in
set_option maxHeartbeats 1000000 in
theorem mix_any (w : World) (V a b c d : Nat) (v : List Int) (x y : Int) (T : TypeId) (hat : At w V T (w32 v)) (ha : a < v.length) (hb : b < v.length) (hc : c < v.length) (hd : d < v.length)
    (ab : a ≠ b) (ac : a ≠ c) (ad' : a ≠ d) (bc : b ≠ c) (bd : b ≠ d) (cd' : c ≠ d) :
    Calls Tryz.prog 101 #[.pointer (some ⟨V, a, none⟩), .pointer (some ⟨V, b, none⟩), .pointer (some ⟨V, c, none⟩), .pointer (some ⟨V, d, none⟩), .int .u32 x, .int .u32 y] w fun e w' => e = .returned (.tuple #[]) ∧ Chg w V (w32 (mixL v a b c d x y)) w' := by
  obtain ⟨A, hA⟩ : ∃ A, v.getD a 0 = A := ⟨_, rfl⟩
  obtain ⟨B, hB⟩ : ∃ B, v.getD b 0 = B := ⟨_, rfl⟩
  obtain ⟨C, hC⟩ : ∃ C, v.getD c 0 = C := ⟨_, rfl⟩
  obtain ⟨D, hD⟩ : ∃ D, v.getD d 0 = D := ⟨_, rfl⟩
  obtain ⟨a1, e_a1⟩ : ∃ z, (A + (B + x)) % 4294967296 = z := ⟨_, rfl⟩
  obtain ⟨d1, e_d1⟩ : ∃ z, rt 16 (bits .xor .u32 D a1) = z := ⟨_, rfl⟩
  obtain ⟨c1, e_c1⟩ : ∃ z, (C + d1) % 4294967296 = z := ⟨_, rfl⟩
  obtain ⟨b1, e_b1⟩ : ∃ z, rt 12 (bits .xor .u32 B c1) = z := ⟨_, rfl⟩
  obtain ⟨a2, e_a2⟩ : ∃ z, (a1 + (b1 + y)) % 4294967296 = z := ⟨_, rfl⟩
  obtain ⟨d2, e_d2⟩ : ∃ z, rt 8 (bits .xor .u32 d1 a2) = z := ⟨_, rfl⟩
  obtain ⟨c2, e_c2⟩ : ∃ z, (c1 + d2) % 4294967296 = z := ⟨_, rfl⟩
  obtain ⟨b2, e_b2⟩ : ∃ z, rt 7 (bits .xor .u32 b1 c2) = z := ⟨_, rfl⟩
  have HP := hide (show mixL v a b c d x y = ((((((((v.set a a1).set d d1).set c c1).set b b1).set a a2).set d d2).set c c2).set b b2) by
    unfold mixL
    simp only [hA, hB, hC, hD]
    rw [show b2 = rt 7 (xo b1 c2) from e_b2.symm, show c2 = ad c1 d2 from e_c2.symm.trans (ad2 _ _), show d2 = rt 8 (xo d1 a2) from e_d2.symm, show a2 = ad a1 (ad b1 y) from e_a2.symm.trans (ad3 _ _ _),
      show b1 = rt 12 (xo B c1) from e_b1.symm, show c1 = ad C d1 from e_c1.symm.trans (ad2 _ _), show d1 = rt 16 (xo D a1) from e_d1.symm, show a1 = ad A (ad B x) from e_a1.symm.trans (ad3 _ _ _)])
  obtain ⟨W0, eW0⟩ : ∃ X, X = w := ⟨_, rfl⟩
  have hat0 : At W0 V T (w32 v) := by rw [eW0]; exact hat
  have ca : W0.cell? ⟨V, a, none⟩ = some (.int .u32 A) := by rw [hat0.cell, w32_get v a ha, hA]
  have cb : W0.cell? ⟨V, b, none⟩ = some (.int .u32 B) := by rw [hat0.cell, w32_get v b hb, hB]
  have cc : W0.cell? ⟨V, c, none⟩ = some (.int .u32 C) := by rw [hat0.cell, w32_get v c hc, hC]
  have cd : W0.cell? ⟨V, d, none⟩ = some (.int .u32 D) := by rw [hat0.cell, w32_get v d hd, hD]
  have fa := hat0.frozen a
  have fb := hat0.frozen b
  have fc := hat0.frozen c
  have fd := hat0.frozen d
  have HC := hide (show Chg w V (w32 v) W0 by rw [eW0]; exact Chg.self hat (Below.refl _ _))
  have HAT := hide hat
  rw [← eW0] at HAT
  rw [HP.out]
  clear hat hat0 hA hB hC hD ha hb hc hd HP
  rw [← eW0] at HC ⊢
  clear eW0
  go_enter Tryz.func101, Tryz.ntmps101
  go_wp2_with fail
  go_cut [] (fun wx => wx.cell? ⟨V, a, none⟩ = some (.int .u32 a1) ∧ wx.cell? ⟨V, b, none⟩ = some (.int .u32 B) ∧ wx.cell? ⟨V, c, none⟩ = some (.int .u32 C) ∧ wx.cell? ⟨V, d, none⟩ = some (.int .u32 D) ∧ Hid (Chg W0 V (w32 (v.set a a1)) wx))
  case first =>
    go_region
    all_goals (go_wp2_with fail; go_meet; exact ⟨cell_same _ _ _ _ ca, cell_far _ _ _ _ _ _ cb ab, cell_far _ _ _ _ _ _ cc ac, cell_far _ _ _ _ _ _ cd ad', by rw [← w32_set]; exact (HC.out.setCell HAT.out a _).drew⟩)
  case rest =>
  clear HC ca cb cc cd fa fb fc fd
  obtain ⟨ca, cb, cc, cd, HC⟩ := hcut
  have fa := (HC.out.at HAT.out).frozen a
  have fb := (HC.out.at HAT.out).frozen b
  have fc := (HC.out.at HAT.out).frozen c
  have fd := (HC.out.at HAT.out).frozen d
  go_wp2_with fail
  go_cut [] (fun wx => wx.cell? ⟨V, a, none⟩ = some (.int .u32 a1) ∧ wx.cell? ⟨V, b, none⟩ = some (.int .u32 B) ∧ wx.cell? ⟨V, c, none⟩ = some (.int .u32 C) ∧ wx.cell? ⟨V, d, none⟩ = some (.int .u32 d1) ∧ Hid (Chg W0 V (w32 ((v.set a a1).set d d1)) wx))
  case first =>
    go_region_with ((go_at_call 102; refine (rl16 _ _).mono ?_; rintro e w1 ⟨rfl, rfl⟩))
    all_goals (go_wp2_with fail; go_meet; exact ⟨cell_far _ _ _ _ _ _ ca (Ne.symm ad'), cell_far _ _ _ _ _ _ cb (Ne.symm bd), cell_far _ _ _ _ _ _ cc (Ne.symm cd'), cell_same _ _ _ _ cd, by rw [← w32_set]; exact (HC.out.setCell HAT.out d _).drew⟩)
  case rest =>
  clear HC ca cb cc cd fa fb fc fd
  obtain ⟨ca, cb, cc, cd, HC⟩ := hcut
  have fa := (HC.out.at HAT.out).frozen a
  have fb := (HC.out.at HAT.out).frozen b
  have fc := (HC.out.at HAT.out).frozen c
  have fd := (HC.out.at HAT.out).frozen d
  go_wp2_with fail
  go_cut [] (fun wx => wx.cell? ⟨V, a, none⟩ = some (.int .u32 a1) ∧ wx.cell? ⟨V, b, none⟩ = some (.int .u32 B) ∧ wx.cell? ⟨V, c, none⟩ = some (.int .u32 c1) ∧ wx.cell? ⟨V, d, none⟩ = some (.int .u32 d1) ∧ Hid (Chg W0 V (w32 (((v.set a a1).set d d1).set c c1)) wx))
  case first =>
    go_region
    all_goals (go_wp2_with fail; go_meet; exact ⟨cell_far _ _ _ _ _ _ ca (Ne.symm ac), cell_far _ _ _ _ _ _ cb (Ne.symm bc), cell_same _ _ _ _ cc, cell_far _ _ _ _ _ _ cd cd', by rw [← w32_set]; exact (HC.out.setCell HAT.out c _).drew⟩)
  case rest =>
  clear HC ca cb cc cd fa fb fc fd
  obtain ⟨ca, cb, cc, cd, HC⟩ := hcut
  have fa := (HC.out.at HAT.out).frozen a
  have fb := (HC.out.at HAT.out).frozen b
  have fc := (HC.out.at HAT.out).frozen c
  have fd := (HC.out.at HAT.out).frozen d
  go_wp2_with fail
  go_cut [] (fun wx => wx.cell? ⟨V, a, none⟩ = some (.int .u32 a1) ∧ wx.cell? ⟨V, b, none⟩ = some (.int .u32 b1) ∧ wx.cell? ⟨V, c, none⟩ = some (.int .u32 c1) ∧ wx.cell? ⟨V, d, none⟩ = some (.int .u32 d1) ∧ Hid (Chg W0 V (w32 ((((v.set a a1).set d d1).set c c1).set b b1)) wx))
  case first =>
    go_region_with ((go_at_call 102; refine (rl12 _ _).mono ?_; rintro e w1 ⟨rfl, rfl⟩))
    all_goals (go_wp2_with fail; go_meet; exact ⟨cell_far _ _ _ _ _ _ ca (Ne.symm ab), cell_same _ _ _ _ cb, cell_far _ _ _ _ _ _ cc bc, cell_far _ _ _ _ _ _ cd bd, by rw [← w32_set]; exact (HC.out.setCell HAT.out b _).drew⟩)
  case rest =>
  clear HC ca cb cc cd fa fb fc fd
  obtain ⟨ca, cb, cc, cd, HC⟩ := hcut
  have fa := (HC.out.at HAT.out).frozen a
  have fb := (HC.out.at HAT.out).frozen b
  have fc := (HC.out.at HAT.out).frozen c
  have fd := (HC.out.at HAT.out).frozen d
  go_wp2_with fail
  go_cut [] (fun wx => wx.cell? ⟨V, a, none⟩ = some (.int .u32 a2) ∧ wx.cell? ⟨V, b, none⟩ = some (.int .u32 b1) ∧ wx.cell? ⟨V, c, none⟩ = some (.int .u32 c1) ∧ wx.cell? ⟨V, d, none⟩ = some (.int .u32 d1) ∧ Hid (Chg W0 V (w32 (((((v.set a a1).set d d1).set c c1).set b b1).set a a2)) wx))
  case first =>
    go_region
    all_goals (go_wp2_with fail; go_meet; exact ⟨cell_same _ _ _ _ ca, cell_far _ _ _ _ _ _ cb ab, cell_far _ _ _ _ _ _ cc ac, cell_far _ _ _ _ _ _ cd ad', by rw [← w32_set]; exact (HC.out.setCell HAT.out a _).drew⟩)
  case rest =>
  clear HC ca cb cc cd fa fb fc fd
  obtain ⟨ca, cb, cc, cd, HC⟩ := hcut
  have fa := (HC.out.at HAT.out).frozen a
  have fb := (HC.out.at HAT.out).frozen b
  have fc := (HC.out.at HAT.out).frozen c
  have fd := (HC.out.at HAT.out).frozen d
  go_wp2_with fail
  go_cut [] (fun wx => wx.cell? ⟨V, a, none⟩ = some (.int .u32 a2) ∧ wx.cell? ⟨V, b, none⟩ = some (.int .u32 b1) ∧ wx.cell? ⟨V, c, none⟩ = some (.int .u32 c1) ∧ wx.cell? ⟨V, d, none⟩ = some (.int .u32 d2) ∧ Hid (Chg W0 V (w32 ((((((v.set a a1).set d d1).set c c1).set b b1).set a a2).set d d2)) wx))
  case first =>
    go_region_with ((go_at_call 102; refine (rl8 _ _).mono ?_; rintro e w1 ⟨rfl, rfl⟩))
    all_goals (go_wp2_with fail; go_meet; exact ⟨cell_far _ _ _ _ _ _ ca (Ne.symm ad'), cell_far _ _ _ _ _ _ cb (Ne.symm bd), cell_far _ _ _ _ _ _ cc (Ne.symm cd'), cell_same _ _ _ _ cd, by rw [← w32_set]; exact (HC.out.setCell HAT.out d _).drew⟩)
  case rest =>
  clear HC ca cb cc cd fa fb fc fd
  obtain ⟨ca, cb, cc, cd, HC⟩ := hcut
  have fa := (HC.out.at HAT.out).frozen a
  have fb := (HC.out.at HAT.out).frozen b
  have fc := (HC.out.at HAT.out).frozen c
  have fd := (HC.out.at HAT.out).frozen d
  go_wp2_with fail
  go_cut [] (fun wx => wx.cell? ⟨V, a, none⟩ = some (.int .u32 a2) ∧ wx.cell? ⟨V, b, none⟩ = some (.int .u32 b1) ∧ wx.cell? ⟨V, c, none⟩ = some (.int .u32 c2) ∧ wx.cell? ⟨V, d, none⟩ = some (.int .u32 d2) ∧ Hid (Chg W0 V (w32 (((((((v.set a a1).set d d1).set c c1).set b b1).set a a2).set d d2).set c c2)) wx))
  case first =>
    go_region
    all_goals (go_wp2_with fail; go_meet; exact ⟨cell_far _ _ _ _ _ _ ca (Ne.symm ac), cell_far _ _ _ _ _ _ cb (Ne.symm bc), cell_same _ _ _ _ cc, cell_far _ _ _ _ _ _ cd cd', by rw [← w32_set]; exact (HC.out.setCell HAT.out c _).drew⟩)
  case rest =>
  clear HC ca cb cc cd fa fb fc fd
  obtain ⟨ca, cb, cc, cd, HC⟩ := hcut
  have fa := (HC.out.at HAT.out).frozen a
  have fb := (HC.out.at HAT.out).frozen b
  have fc := (HC.out.at HAT.out).frozen c
  have fd := (HC.out.at HAT.out).frozen d
  go_wp2_with fail
  have HC8 := hide (show Chg _ V (w32 ((((((((v.set a a1).set d d1).set c c1).set b b1).set a a2).set d d2).set c c2).set b b2)) (wc.setCell ⟨V, b, none⟩ (.int .u32 b2)).drew by rw [← w32_set]; exact (HC.out.setCell HAT.out b _).drew)
  go_region_with ((go_at_call 102; refine (rl7 _ _).mono ?_; rintro e w1 ⟨rfl, rfl⟩))
  all_goals (try go_wp2_with fail)
  all_goals go_end0
  all_goals exact ⟨rfl, HC8.out⟩
end BlkC
end Go.Proofs.YtpambhlhkmkagaaGreatDoor
