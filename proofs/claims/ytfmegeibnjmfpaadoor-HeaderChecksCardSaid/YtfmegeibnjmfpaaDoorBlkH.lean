/-
  A block is taken into H, by package blake.
-/
import Derived.Test.YtfmegeibnjmfpaaDoorBlkF
import Derived.Test.YtfmegeibnjmfpaaDoorBlkG
namespace Go.Proofs.YtfmegeibnjmfpaaDoor
namespace BlkH
open Go.RowKit
open BlkM BlkA BlkE BlkF BlkG

/-! ### The words v, when some have come -/
def vp (h : List Int) : Nat → List Int
  | 0 => List.replicate 16 0
  | k + 1 => ((vp h k).set k (h.getD k 0)).set (k + 8) (ini.getD k 0)
theorem vp_len (h : List Int) : ∀ k, (vp h k).length = 16
  | 0 => rfl
  | k + 1 => by rw [vp, List.length_set, List.length_set, vp_len h k]
theorem vp_all (h : List Int) (lh : h.length = 8) (z : Nat) (hz : z = 8) : vp h z = h ++ ini := by
  subst hz
  match h, lh with
  | [a0, a1, a2, a3, a4, a5, a6, a7], _ => rfl
/-- H, when some words have been xored. -/
def hp (h v : List Int) : Nat → List Int
  | 0 => h
  | k + 1 => (hp h v k).set k (xo (h.getD k 0) (xo (v.getD k 0) (v.getD (k + 8) 0)))
theorem hp_len (h v : List Int) : ∀ k, (hp h v k).length = h.length
  | 0 => rfl
  | k + 1 => by rw [hp, List.length_set, hp_len h v k]
theorem hp_get (h v : List Int) : ∀ k i, k ≤ i → (hp h v k).getD i 0 = h.getD i 0
  | 0, _, _ => rfl
  | k + 1, i, hi => by
    have := hp_get h v k i (by omega)
    rw [hp, ← this]
    have hne : k ≠ i := by omega
    simp [List.getD, hne]
theorem hp_all (h v : List Int) (lh : h.length = 8) (z : Nat) (hz : z = 8) : hp h v z = (List.range 8).map fun i => xo (h.getD i 0) (xo (v.getD i 0) (v.getD (i + 8) 0)) := by
  subst hz
  match h, lh with
  | [a0, a1, a2, a3, a4, a5, a6, a7], _ => rfl
theorem idxI (W : World) : ∀ i : Nat, i < 8 → (Instr.index 41 (.agg (w32 ini).toArray) (.int .i64 (i : Int))).run Tryd.prog W = .ok (.int .u32 (ini.getD i 0)) W
  | 0, _ | 1, _ | 2, _ | 3, _ | 4, _ | 5, _ | 6, _ | 7, _ => by kernel_rfl
  | n + 8, h => absurd h (by omega)

def Mid1 (w : World) (h : List Int) (i : Value) (U : World) : Prop :=
  ∃ k : Nat, k ≤ 8 ∧ i = .int .i64 (k : Int) ∧ At U w.heap.size 102 (w32 (vp h k)) ∧ Below w.heap.size w U
def Mid2 (w : World) (D : Nat) (pre : List Value) (n held : Int) (h v blk : List Int) (i : Value) (U : World) : Prop :=
  ∃ k : Nat, k ≤ 8 ∧ i = .int .i64 (k : Int) ∧ At U w.heap.size 102 (w32 v) ∧ Chg w D (pre ++ dig n (hp h v k) blk held) U

set_option maxRecDepth 10000 in
set_option maxHeartbeats 2000000 in
theorem process_any (w : World) (D off : Nat) (T : TypeId) (pre : List Value) (n : Int) (h blk : List Int) (held last : Int) (hat : At w D T (pre ++ dig n h blk held)) (hoff : pre.length = off) (lh : h.length = 8) (lb : blk.length = 64)
    (hr : ∀ i, 0 ≤ blk.getD i 0 ∧ blk.getD i 0 < 256) (hg : Glob w) :
    Calls Tryd.prog 66 #[.pointer (some ⟨D, off, none⟩), .int .u32 last] w fun e w' => e = .returned (.tuple #[]) ∧ Chg w D (pre ++ dig n (comp h blk n last) blk held) w' := by
  have HAT := hide hat
  have HOFF := hide hoff
  have LH := hide lh
  have LB := hide lb
  have HR := hide hr
  have HG := hide hg
  have hDl := hat.lt
  have hst : Mid1 w h (.int .i64 0) (w.alloc (.cells #[Value.int .u32 0, Value.int .u32 0, Value.int .u32 0, Value.int .u32 0, Value.int .u32 0, Value.int .u32 0, Value.int .u32 0, Value.int .u32 0, Value.int .u32 0, Value.int .u32 0, Value.int .u32 0, Value.int .u32 0, Value.int .u32 0, Value.int .u32 0, Value.int .u32 0, Value.int .u32 0] 102)) := ⟨0, by omega, rfl, At.new w 102 (w32 (List.replicate 16 0)), (by repeat (first | assumption | exact Below.refl _ _ | refine Below.setCell ?_ (by first | omega | (simp; done) | (simp; omega)) _ | refine below_drewN ?_ _ | refine Below.drew ?_ | refine Below.alloc ?_ (by first | omega | (simp; done) | (simp; omega)) _ | refine Below.trans ?_ (Below.mono (by assumption) (by first | omega | (simp; done) | (simp; omega)))))⟩
  have HST := hide hst
  have hR0 : (w.alloc (.cells #[Value.int .u32 0, Value.int .u32 0, Value.int .u32 0, Value.int .u32 0, Value.int .u32 0, Value.int .u32 0, Value.int .u32 0, Value.int .u32 0, Value.int .u32 0, Value.int .u32 0, Value.int .u32 0, Value.int .u32 0, Value.int .u32 0, Value.int .u32 0, Value.int .u32 0, Value.int .u32 0] 102)).rangeAt 0 0 (w32 ini) := fun j v hv => by
    have hj : j < 8 := by
      have := (List.getElem?_eq_some_iff.1 hv).1
      simpa [w32_len, ini] using this
    rw [w32_get ini j hj] at hv
    rw [Nat.zero_add, ← hv]
    have hb : Below w.heap.size w (w.alloc (.cells #[Value.int .u32 0, Value.int .u32 0, Value.int .u32 0, Value.int .u32 0, Value.int .u32 0, Value.int .u32 0, Value.int .u32 0, Value.int .u32 0, Value.int .u32 0, Value.int .u32 0, Value.int .u32 0, Value.int .u32 0, Value.int .u32 0, Value.int .u32 0, Value.int .u32 0, Value.int .u32 0] 102)) := (by repeat (first | assumption | exact Below.refl _ _ | refine Below.setCell ?_ (by first | omega | (simp; done) | (simp; omega)) _ | refine below_drewN ?_ _ | refine Below.drew ?_ | refine Below.alloc ?_ (by first | omega | (simp; done) | (simp; omega)) _ | refine Below.trans ?_ (Below.mono (by assumption) (by first | omega | (simp; done) | (simp; omega)))))
    exact (hb.cell (p := ⟨0, j, none⟩) hg.1).trans (hg.2 j hj)
  have HR0 := hide hR0
  obtain ⟨x12, e12⟩ : ∃ z, bits .xor .u32 1359893119 (n % 4294967296) = z := ⟨_, rfl⟩
  obtain ⟨x13, e13⟩ : ∃ z, bits .xor .u32 2600822924 (n / 4294967296 % 4294967296) = z := ⟨_, rfl⟩
  obtain ⟨x14, e14⟩ : ∃ z, bits .xor .u32 528734635 last = z := ⟨_, rfl⟩
  have HSV := hide (show ((((h ++ ini).set 12 x12).set 13 x13).set 14 x14) = BlkM.start h n last by
    unfold BlkM.start xo
    rw [← e12, ← e13, ← e14, IntKind.wrap_u32, IntKind.wrap_u32]
    rfl)
  clear hat hoff lh lb hr hg hst hR0
  go_enter Tryd.func66, Tryd.ntmps66
  go_upto_region 1 with (fail)
  refine wp_region_lit ?_
  refine wpList_load_mid (by rfl) _ _ (by rfl) 0 0 (by rfl) (w32 ini) (.array 8 40) HR0.out Tryd.underlying41 (by rfl) (by kernel_rfl) ?_
  go_wp2_with fail
  go_loopw [9] (fun i wr => Mid1 w h i wr) (fun i _ => 8 - (intOf i).toNat)
  case atStart => exact HST.out
  case round =>
    obtain ⟨k, hk, rfl, hm, hB⟩ := hrel
    by_cases hlt : k < 8
    · have hD := HAT.out.below hB hDl
      obtain ⟨x, hx⟩ : ∃ x, h.getD k 0 = x := ⟨_, rfl⟩
      obtain ⟨y, hy⟩ : ∃ y, ini.getD k 0 = y := ⟨_, rfl⟩
      have cD : wr.cell? ⟨D, off + 1 + k, none⟩ = some (.int .u32 x) := by rw [hD.cell, ← HOFF.out, dig_h pre n h blk held LH.out k hlt, hx]
      have hix := fun W => idxI W k hlt
      rw [hy] at hix
      have ck : wr.cell? ⟨w.heap.size, k, none⟩ = some (.int .u32 ((vp h k).getD k 0)) := by rw [hm.cell, w32_get _ k (by rw [vp_len]; omega)]
      have ck8 : wr.cell? ⟨w.heap.size, k + 8, none⟩ = some (.int .u32 ((vp h k).getD (k + 8) 0)) := by rw [hm.cell, w32_get _ (k + 8) (by rw [vp_len]; omega)]
      have fk := hm.frozen k
      have fk8 := hm.frozen (k + 8)
      have i1 : (k : Int) < 8 := by omega
      have i2 : (k : Int) < 16 := by omega
      have i3 : (k : Int) + 8 < 16 := by omega
      have HM := hide hm
      have HB := hide hB
      have HX := hide hx
      have HY := hide hy
      clear hm hB hx hy hD
      go_wp2_with fail
      go_roundw
      case rel =>
        refine ⟨k + 1, by omega, by go_num, ?_, Below.setCell (Below.setCell HB.out (by simp) _) (by simp) _⟩
        have := (HM.out.setCell k (.int .u32 x)).setCell (k + 8) (.int .u32 y)
        rw [w32_set, w32_set] at this
        rw [vp, HX.out, HY.out]
        exact this
      case measure => simp [intOf]; omega
    · obtain rfl : k = 8 := by omega
      rw [vp_all h LH.out 8 rfl] at hm
      have hD := HAT.out.below hB hDl
      have cn : wr.cell? ⟨D, off, none⟩ = some (.int .u64 n) := by rw [hD.cell, ← HOFF.out, dig_n]
      have l8 : ∀ i x, ini[i]? = some x → (w32 (h ++ ini))[8 + i]? = some (.int .u32 x) := by
        intro i x hx
        rw [w32_append, List.getElem?_append_right (by rw [w32_len, LH.out]; omega), w32_len, LH.out, show 8 + i - 8 = i by omega]
        simp [w32, hx]
      have c12 : wr.cell? ⟨w.heap.size, 12, none⟩ = some (.int .u32 1359893119) := by rw [hm.cell]; exact l8 4 _ rfl
      have c13 : wr.cell? ⟨w.heap.size, 13, none⟩ = some (.int .u32 2600822924) := by rw [hm.cell]; exact l8 5 _ rfl
      have c14 : wr.cell? ⟨w.heap.size, 14, none⟩ = some (.int .u32 528734635) := by rw [hm.cell]; exact l8 6 _ rfl
      have f12 := hm.frozen 12
      have f13 := hm.frozen 13
      have f14 := hm.frozen 14
      have HM := hide hm
      have HB := hide hB
      clear hm hB hD l8
      go_wp2_with fail
      go_cut [] (fun wx => wx.cell? ⟨w.heap.size, 13, none⟩ = some (.int .u32 2600822924) ∧ wx.cell? ⟨w.heap.size, 14, none⟩ = some (.int .u32 528734635) ∧ Hid (At wx w.heap.size 102 (w32 ((h ++ ini).set 12 x12)) ∧ Below w.heap.size w wx))
      case first =>
        go_region
        all_goals (go_wp2_with fail; go_meet; exact ⟨cell_far _ _ _ _ _ _ c13 (by omega), cell_far _ _ _ _ _ _ c14 (by omega), by rw [← w32_set]; exact HM.out.setCell 12 _, (Below.setCell HB.out (by simp) _).drew⟩)
      case rest =>
      clear c12 f12 c13 f13 c14 f14 HM HB cn
      obtain ⟨c13, c14, HM⟩ := hcut
      have f13 := HM.out.1.frozen 13
      have hD := HAT.out.below HM.out.2 hDl
      have cn : wc.cell? ⟨D, off, none⟩ = some (.int .u64 n) := by rw [hD.cell, ← HOFF.out, dig_n]
      clear hD
      go_wp2_with fail
      go_cut [] (fun wx => wx.cell? ⟨w.heap.size, 14, none⟩ = some (.int .u32 528734635) ∧ Hid (At wx w.heap.size 102 (w32 (((h ++ ini).set 12 x12).set 13 x13)) ∧ Below w.heap.size w wx))
      case first =>
        go_region
        all_goals (go_wp2_with fail; go_meet; exact ⟨cell_far _ _ _ _ _ _ c14 (by omega), by rw [← w32_set]; exact HM.out.1.setCell 13 _, (Below.setCell HM.out.2 (by simp) _).drew⟩)
      case rest =>
      clear c13 f13 c14 HM cn
      obtain ⟨c14, HM⟩ := hcut
      have f14 := HM.out.1.frozen 14
      have h14 := HM.out.1.setCell 14 (.int .u32 x14)
      rw [w32_set, HSV.out] at h14
      have b14 : Below w.heap.size w (World.setCell _ ⟨w.heap.size, 14, none⟩ (.int .u32 x14)) := Below.setCell HM.out.2 (by simp) _
      have H14 := hide h14
      have B14 := hide b14
      clear h14 b14 HM
      go_wp2_with (first
        | (go_at_call 89; refine (words_any _ D (off + 9) blk (by intro i hi; rw [(HAT.out.below B14.out hDl).cell, ← HOFF.out, dig_b pre n h blk held LH.out LB.out i hi]) (by have := B14.out.size; omega) HR.out).mono ?_; rintro e w1 ⟨rfl, hb⟩)
        | (go_at_call 88; refine (rounds_any _ w.heap.size (BlkM.start h n last) (wordsL blk) 102 (by exact H14.out.below hb H14.out.lt) (start_len h n last LH.out) (wordsL_len blk)).mono ?_; rintro e w2 ⟨rfl, hc⟩))
      have hN := hc.at (H14.out.below hb H14.out.lt)
      have hb0 : Below w.heap.size w w1 := B14.out.trans (hb.mono B14.out.size)
      have hBw : Below w.heap.size w w2 := hb0.trans (hc.below_of (Nat.le_refl _) hb0.size)
      have HCOMP := hide (show comp h blk n last = (List.range 8).map fun i => xo (h.getD i 0) (xo ((roundsL (BlkM.start h n last) (wordsL blk) 10).getD i 0) ((roundsL (BlkM.start h n last) (wordsL blk) 10).getD (i + 8) 0)) from rfl)
      have lv := (roundsL_len (BlkM.start h n last) (wordsL blk) 10).trans (start_len h n last LH.out)
      generalize roundsL (BlkM.start h n last) (wordsL blk) 10 = v10 at HCOMP hN lv
      have hst2 : Mid2 w D pre n held h v10 blk (.int .i64 0) w2 := ⟨0, by omega, rfl, hN, Chg.self HAT.out hBw⟩
      have HST2 := hide hst2
      have LV := hide lv
      clear hN hb0 hBw hst2 hb hc H14 B14 c14 f14 lv
      go_loopw [57] (fun i wq => Mid2 w D pre n held h v10 blk i wq) (fun i _ => 8 - (intOf i).toNat)
      case atStart => exact HST2.out
      case round =>
        obtain ⟨k, hk, rfl, hm, hC⟩ := hrel
        by_cases hlt : k < 8
        · have hD := hC.at HAT.out
          obtain ⟨x, hx⟩ : ∃ x, h.getD k 0 = x := ⟨_, rfl⟩
          obtain ⟨A, hA⟩ : ∃ x, v10.getD k 0 = x := ⟨_, rfl⟩
          obtain ⟨B, hB⟩ : ∃ x, v10.getD (k + 8) 0 = x := ⟨_, rfl⟩
          obtain ⟨z, hz⟩ : ∃ z, bits .xor .u32 x (bits .xor .u32 A B) = z := ⟨_, rfl⟩
          have cD := hD.cell (off + 1 + k)
          rw [← HOFF.out, dig_h pre n _ blk held (by rw [hp_len]; exact LH.out) k hlt, hp_get h v10 k k (Nat.le_refl _), hx, HOFF.out] at cD
          have fD := hD.frozen (off + 1 + k)
          have cA := hm.cell k
          rw [w32_get v10 k (by rw [LV.out]; omega), hA] at cA
          have cB := hm.cell (k + 8)
          rw [w32_get v10 (k + 8) (by rw [LV.out]; omega), hB] at cB
          have i1 : (k : Int) < 8 := by omega
          have i2 : (k : Int) < 16 := by omega
          have i3 : (k : Int) + 8 < 16 := by omega
          have HM := hide hm
          have HC := hide hC
          have HX := hide hx
          have HA := hide hA
          have HBB := hide hB
          have HZ := hide hz
          clear hm hC hx hA hB hD
          go_wp2_with fail
          go_region
          go_wp2_with fail
          go_roundw
          case rel =>
            refine ⟨k + 1, by omega, by go_num, HM.out.setCell_other (by omega) _ _, ?_⟩
            have := (HC.out.setCell HAT.out (off + 1 + k) (.int .u32 z)).drew
            rw [← HOFF.out, set_h pre n _ blk held (by rw [hp_len]; exact LH.out) k hlt z] at this
            rw [hp, HX.out, HA.out, HBB.out, show xo x (xo A B) = z from HZ.out, ← HOFF.out]
            exact this
          case measure => simp [intOf]; omega
        · obtain rfl : k = 8 := by omega
          have HC := hide hC
          clear hm hC
          go_wp2_with fail
          go_end0
          refine ⟨rfl, ?_⟩
          rw [HCOMP.out, ← hp_all h v10 LH.out 8 rfl]
          exact HC.out
end BlkH
end Go.Proofs.YtfmegeibnjmfpaaDoor
