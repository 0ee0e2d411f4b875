/-
  BlkH, BlkI, BlkJ, BlkK, in one text.
-/
import Derived.Test.YtpambhlhkmkagaaGreatDoorPvA
import Derived.Test.YtpambhlhkmkagaaGreatDoorBlkG
import Derived.Laws.CopyOwn
import Derived.Lib.SliceRun
import Derived.BigFrame
import Derived.LaidEqlPtr
namespace Go.Proofs.YtpambhlhkmkagaaGreatDoor
namespace BlkH
open Go.RowKit
open BlkM BlkA BlkE BlkF BlkG

/-! ### The words v, when some have come -/
def vp (h : List Int) : Nat → List Int
  | 0 => List.replicate 16 0
  | k + 1 => ((vp h k).set k (h.getD k 0)).set (k + 8) (ini.getD k 0)
theorem vp_len (h : List Int) : ∀ k, (vp h k).length = 16
  | 0 => rfl
  | k + 1 => by rw [vp, List.length_set, List.length_set, vp_len h k]
theorem vp_all (h : List Int) (lh : h.length = 8) (z : Nat) (hz : z = 8) : vp h z = h ++ ini := by
  subst hz
  match h, lh with
  | [a0, a1, a2, a3, a4, a5, a6, a7], _ => rfl
/-- H, when some words have been xored. -/
def hp (h v : List Int) : Nat → List Int
  | 0 => h
  | k + 1 => (hp h v k).set k (xo (h.getD k 0) (xo (v.getD k 0) (v.getD (k + 8) 0)))
theorem hp_len (h v : List Int) : ∀ k, (hp h v k).length = h.length
  | 0 => rfl
  | k + 1 => by rw [hp, List.length_set, hp_len h v k]
theorem hp_get (h v : List Int) : ∀ k i, k ≤ i → (hp h v k).getD i 0 = h.getD i 0
  | 0, _, _ => rfl
  | k + 1, i, hi => by
    have := hp_get h v k i (by omega)
    rw [hp, ← this]
    have hne : k ≠ i := by omega
    simp [List.getD, hne]
theorem hp_all (h v : List Int) (lh : h.length = 8) (z : Nat) (hz : z = 8) : hp h v z = (List.range 8).map fun i => xo (h.getD i 0) (xo (v.getD i 0) (v.getD (i + 8) 0)) := by
  subst hz
  match h, lh with
  | [a0, a1, a2, a3, a4, a5, a6, a7], _ => rfl
theorem idxI (W : World) : ∀ i : Nat, i < 8 → (Instr.index 98 (.agg (w32 ini).toArray) (.int .i64 (i : Int))).run Tryz.prog W = .ok (.int .u32 (ini.getD i 0)) W
  | 0, _ | 1, _ | 2, _ | 3, _ | 4, _ | 5, _ | 6, _ | 7, _ => by kernel_rfl
  | n + 8, h => absurd h (by omega)

def Mid1 (w : World) (h : List Int) (i : Value) (U : World) : Prop :=
  ∃ k : Nat, k ≤ 8 ∧ i = .int .i64 (k : Int) ∧ At U w.heap.size 131 (w32 (vp h k)) ∧ Below w.heap.size w U
def Mid2 (w : World) (D : Nat) (pre : List Value) (n held : Int) (h v blk : List Int) (i : Value) (U : World) : Prop :=
  ∃ k : Nat, k ≤ 8 ∧ i = .int .i64 (k : Int) ∧ At U w.heap.size 131 (w32 v) ∧ Chg w D (pre ++ dig n (hp h v k) blk held) U

set_option maxRecDepth 10000 in
set_option maxHeartbeats 2000000 in
theorem process_any (w : World) (D off : Nat) (T : TypeId) (pre : List Value) (n : Int) (h blk : List Int) (held last : Int) (hat : At w D T (pre ++ dig n h blk held)) (hoff : pre.length = off) (lh : h.length = 8) (lb : blk.length = 64)
    (hr : ∀ i, 0 ≤ blk.getD i 0 ∧ blk.getD i 0 < 256) (hg : Glob w) :
    Calls Tryz.prog 79 #[.pointer (some ⟨D, off, none⟩), .int .u32 last] w fun e w' => e = .returned (.tuple #[]) ∧ Chg w D (pre ++ dig n (comp h blk n last) blk held) w' := by
  have HAT := hide hat
  have HOFF := hide hoff
  have LH := hide lh
  have LB := hide lb
  have HR := hide hr
  have HG := hide hg
  have hDl := hat.lt
  have hst : Mid1 w h (.int .i64 0) (w.alloc (.cells #[Value.int .u32 0, Value.int .u32 0, Value.int .u32 0, Value.int .u32 0, Value.int .u32 0, Value.int .u32 0, Value.int .u32 0, Value.int .u32 0, Value.int .u32 0, Value.int .u32 0, Value.int .u32 0, Value.int .u32 0, Value.int .u32 0, Value.int .u32 0, Value.int .u32 0, Value.int .u32 0] 131)) := ⟨0, by omega, rfl, At.new w 131 (w32 (List.replicate 16 0)), (by repeat (first | assumption | exact Below.refl _ _ | refine Below.setCell ?_ (by first | omega | (simp; done) | (simp; omega)) _ | refine below_drewN ?_ _ | refine Below.drew ?_ | refine Below.alloc ?_ (by first | omega | (simp; done) | (simp; omega)) _ | refine Below.trans ?_ (Below.mono (by assumption) (by first | omega | (simp; done) | (simp; omega)))))⟩
  have HST := hide hst
  have hR0 : (w.alloc (.cells #[Value.int .u32 0, Value.int .u32 0, Value.int .u32 0, Value.int .u32 0, Value.int .u32 0, Value.int .u32 0, Value.int .u32 0, Value.int .u32 0, Value.int .u32 0, Value.int .u32 0, Value.int .u32 0, Value.int .u32 0, Value.int .u32 0, Value.int .u32 0, Value.int .u32 0, Value.int .u32 0] 131)).rangeAt 0 0 (w32 ini) := fun j v hv => by
    have hj : j < 8 := by
      have := (List.getElem?_eq_some_iff.1 hv).1
      simpa [w32_len, ini] using this
    rw [w32_get ini j hj] at hv
    rw [Nat.zero_add, ← hv]
    have hb : Below w.heap.size w (w.alloc (.cells #[Value.int .u32 0, Value.int .u32 0, Value.int .u32 0, Value.int .u32 0, Value.int .u32 0, Value.int .u32 0, Value.int .u32 0, Value.int .u32 0, Value.int .u32 0, Value.int .u32 0, Value.int .u32 0, Value.int .u32 0, Value.int .u32 0, Value.int .u32 0, Value.int .u32 0, Value.int .u32 0] 131)) := (by repeat (first | assumption | exact Below.refl _ _ | refine Below.setCell ?_ (by first | omega | (simp; done) | (simp; omega)) _ | refine below_drewN ?_ _ | refine Below.drew ?_ | refine Below.alloc ?_ (by first | omega | (simp; done) | (simp; omega)) _ | refine Below.trans ?_ (Below.mono (by assumption) (by first | omega | (simp; done) | (simp; omega)))))
    exact (hb.cell (p := ⟨0, j, none⟩) hg.1).trans (hg.2 j hj)
  have HR0 := hide hR0
  obtain ⟨x12, e12⟩ : ∃ z, bits .xor .u32 1359893119 (n % 4294967296) = z := ⟨_, rfl⟩
  obtain ⟨x13, e13⟩ : ∃ z, bits .xor .u32 2600822924 (n / 4294967296 % 4294967296) = z := ⟨_, rfl⟩
  obtain ⟨x14, e14⟩ : ∃ z, bits .xor .u32 528734635 last = z := ⟨_, rfl⟩
  have HSV := hide (show ((((h ++ ini).set 12 x12).set 13 x13).set 14 x14) = BlkM.start h n last by
    unfold BlkM.start xo
    rw [← e12, ← e13, ← e14, IntKind.wrap_u32, IntKind.wrap_u32]
    rfl)
  clear hat hoff lh lb hr hg hst hR0
  go_enter Tryz.func79, Tryz.ntmps79
  go_upto_region 1 with (fail)
  refine wp_region_lit ?_
  refine wpList_load_mid (by rfl) _ _ (by rfl) 0 0 (by rfl) (w32 ini) (.array 8 97) HR0.out Tryz.underlying98 (by rfl) (by kernel_rfl) ?_
  go_wp2_with fail
  go_loopw [9] (fun i wr => Mid1 w h i wr) (fun i _ => 8 - (intOf i).toNat)
  case atStart => exact HST.out
  case round =>
    obtain ⟨k, hk, rfl, hm, hB⟩ := hrel
    by_cases hlt : k < 8
    · have hD := HAT.out.below hB hDl
      obtain ⟨x, hx⟩ : ∃ x, h.getD k 0 = x := ⟨_, rfl⟩
      obtain ⟨y, hy⟩ : ∃ y, ini.getD k 0 = y := ⟨_, rfl⟩
      have cD : wr.cell? ⟨D, off + 1 + k, none⟩ = some (.int .u32 x) := by rw [hD.cell, ← HOFF.out, dig_h pre n h blk held LH.out k hlt, hx]
      have hix := fun W => idxI W k hlt
      rw [hy] at hix
      have ck : wr.cell? ⟨w.heap.size, k, none⟩ = some (.int .u32 ((vp h k).getD k 0)) := by rw [hm.cell, w32_get _ k (by rw [vp_len]; omega)]
      have ck8 : wr.cell? ⟨w.heap.size, k + 8, none⟩ = some (.int .u32 ((vp h k).getD (k + 8) 0)) := by rw [hm.cell, w32_get _ (k + 8) (by rw [vp_len]; omega)]
      have fk := hm.frozen k
      have fk8 := hm.frozen (k + 8)
      have i1 : (k : Int) < 8 := by omega
      have i2 : (k : Int) < 16 := by omega
      have i3 : (k : Int) + 8 < 16 := by omega
      have HM := hide hm
      have HB := hide hB
      have HX := hide hx
      have HY := hide hy
      clear hm hB hx hy hD
      go_wp2_with fail
      go_roundw
      case rel =>
        refine ⟨k + 1, by omega, by go_num, ?_, Below.setCell (Below.setCell HB.out (by simp) _) (by simp) _⟩
        have := (HM.out.setCell k (.int .u32 x)).setCell (k + 8) (.int .u32 y)
        rw [w32_set, w32_set] at this
        rw [vp, HX.out, HY.out]
        exact this
      case measure => simp [intOf]; omega
    · obtain rfl : k = 8 := by omega
      rw [vp_all h LH.out 8 rfl] at hm
      have hD := HAT.out.below hB hDl
      have cn : wr.cell? ⟨D, off, none⟩ = some (.int .u64 n) := by rw [hD.cell, ← HOFF.out, dig_n]
      have l8 : ∀ i x, ini[i]? = some x → (w32 (h ++ ini))[8 + i]? = some (.int .u32 x) := by
        intro i x hx
        rw [w32_append, List.getElem?_append_right (by rw [w32_len, LH.out]; omega), w32_len, LH.out, show 8 + i - 8 = i by omega]
        simp [w32, hx]
      have c12 : wr.cell? ⟨w.heap.size, 12, none⟩ = some (.int .u32 1359893119) := by rw [hm.cell]; exact l8 4 _ rfl
      have c13 : wr.cell? ⟨w.heap.size, 13, none⟩ = some (.int .u32 2600822924) := by rw [hm.cell]; exact l8 5 _ rfl
      have c14 : wr.cell? ⟨w.heap.size, 14, none⟩ = some (.int .u32 528734635) := by rw [hm.cell]; exact l8 6 _ rfl
      have f12 := hm.frozen 12
      have f13 := hm.frozen 13
      have f14 := hm.frozen 14
      have HM := hide hm
      have HB := hide hB
      clear hm hB hD l8
      go_wp2_with fail
      go_cut [] (fun wx => wx.cell? ⟨w.heap.size, 13, none⟩ = some (.int .u32 2600822924) ∧ wx.cell? ⟨w.heap.size, 14, none⟩ = some (.int .u32 528734635) ∧ Hid (At wx w.heap.size 131 (w32 ((h ++ ini).set 12 x12)) ∧ Below w.heap.size w wx))
      case first =>
        go_region
        all_goals (go_wp2_with fail; go_meet; exact ⟨cell_far _ _ _ _ _ _ c13 (by omega), cell_far _ _ _ _ _ _ c14 (by omega), by rw [← w32_set]; exact HM.out.setCell 12 _, (Below.setCell HB.out (by simp) _).drew⟩)
      case rest =>
      clear c12 f12 c13 f13 c14 f14 HM HB cn
      obtain ⟨c13, c14, HM⟩ := hcut
      have f13 := HM.out.1.frozen 13
      have hD := HAT.out.below HM.out.2 hDl
      have cn : wc.cell? ⟨D, off, none⟩ = some (.int .u64 n) := by rw [hD.cell, ← HOFF.out, dig_n]
      clear hD
      go_wp2_with fail
      go_cut [] (fun wx => wx.cell? ⟨w.heap.size, 14, none⟩ = some (.int .u32 528734635) ∧ Hid (At wx w.heap.size 131 (w32 (((h ++ ini).set 12 x12).set 13 x13)) ∧ Below w.heap.size w wx))
      case first =>
        go_region
        all_goals (go_wp2_with fail; go_meet; exact ⟨cell_far _ _ _ _ _ _ c14 (by omega), by rw [← w32_set]; exact HM.out.1.setCell 13 _, (Below.setCell HM.out.2 (by simp) _).drew⟩)
      case rest =>
      clear c13 f13 c14 HM cn
      obtain ⟨c14, HM⟩ := hcut
      have f14 := HM.out.1.frozen 14
      have h14 := HM.out.1.setCell 14 (.int .u32 x14)
      rw [w32_set, HSV.out] at h14
      have b14 : Below w.heap.size w (World.setCell _ ⟨w.heap.size, 14, none⟩ (.int .u32 x14)) := Below.setCell HM.out.2 (by simp) _
      have H14 := hide h14
      have B14 := hide b14
      clear h14 b14 HM
      go_wp2_with (first
        | (go_at_call 96; refine (words_any _ D (off + 9) blk (by intro i hi; rw [(HAT.out.below B14.out hDl).cell, ← HOFF.out, dig_b pre n h blk held LH.out LB.out i hi]) (by have := B14.out.size; omega) HR.out).mono ?_; rintro e w1 ⟨rfl, hb⟩)
        | (go_at_call 95; refine (rounds_any _ w.heap.size (BlkM.start h n last) (wordsL blk) 131 (by exact H14.out.below hb H14.out.lt) (start_len h n last LH.out) (wordsL_len blk)).mono ?_; rintro e w2 ⟨rfl, hc⟩))
      have hN := hc.at (H14.out.below hb H14.out.lt)
      have hb0 : Below w.heap.size w w1 := B14.out.trans (hb.mono B14.out.size)
      have hBw : Below w.heap.size w w2 := hb0.trans (hc.below_of (Nat.le_refl _) hb0.size)
      have HCOMP := hide (show comp h blk n last = (List.range 8).map fun i => xo (h.getD i 0) (xo ((roundsL (BlkM.start h n last) (wordsL blk) 10).getD i 0) ((roundsL (BlkM.start h n last) (wordsL blk) 10).getD (i + 8) 0)) from rfl)
      have lv := (roundsL_len (BlkM.start h n last) (wordsL blk) 10).trans (start_len h n last LH.out)
      generalize roundsL (BlkM.start h n last) (wordsL blk) 10 = v10 at HCOMP hN lv
      have hst2 : Mid2 w D pre n held h v10 blk (.int .i64 0) w2 := ⟨0, by omega, rfl, hN, Chg.self HAT.out hBw⟩
      have HST2 := hide hst2
      have LV := hide lv
      clear hN hb0 hBw hst2 hb hc H14 B14 c14 f14 lv
      go_loopw [57] (fun i wq => Mid2 w D pre n held h v10 blk i wq) (fun i _ => 8 - (intOf i).toNat)
      case atStart => exact HST2.out
      case round =>
        obtain ⟨k, hk, rfl, hm, hC⟩ := hrel
        by_cases hlt : k < 8
        · have hD := hC.at HAT.out
          obtain ⟨x, hx⟩ : ∃ x, h.getD k 0 = x := ⟨_, rfl⟩
          obtain ⟨A, hA⟩ : ∃ x, v10.getD k 0 = x := ⟨_, rfl⟩
          obtain ⟨B, hB⟩ : ∃ x, v10.getD (k + 8) 0 = x := ⟨_, rfl⟩
          obtain ⟨z, hz⟩ : ∃ z, bits .xor .u32 x (bits .xor .u32 A B) = z := ⟨_, rfl⟩
          have cD := hD.cell (off + 1 + k)
          rw [← HOFF.out, dig_h pre n _ blk held (by rw [hp_len]; exact LH.out) k hlt, hp_get h v10 k k (Nat.le_refl _), hx, HOFF.out] at cD
          have fD := hD.frozen (off + 1 + k)
          have cA := hm.cell k
          rw [w32_get v10 k (by rw [LV.out]; omega), hA] at cA
          have cB := hm.cell (k + 8)
          rw [w32_get v10 (k + 8) (by rw [LV.out]; omega), hB] at cB
          have i1 : (k : Int) < 8 := by omega
          have i2 : (k : Int) < 16 := by omega
          have i3 : (k : Int) + 8 < 16 := by omega
          have HM := hide hm
          have HC := hide hC
          have HX := hide hx
          have HA := hide hA
          have HBB := hide hB
          have HZ := hide hz
          clear hm hC hx hA hB hD
          go_wp2_with fail
          go_region
          go_wp2_with fail
          go_roundw
          case rel =>
            refine ⟨k + 1, by omega, by go_num, HM.out.setCell_other (by omega) _ _, ?_⟩
            have := (HC.out.setCell HAT.out (off + 1 + k) (.int .u32 z)).drew
            rw [← HOFF.out, set_h pre n _ blk held (by rw [hp_len]; exact LH.out) k hlt z] at this
            rw [hp, HX.out, HA.out, HBB.out, show xo x (xo A B) = z from HZ.out, ← HOFF.out]
            exact this
          case measure => simp [intOf]; omega
        · obtain rfl : k = 8 := by omega
          have HC := hide hC
          clear hm hC
          go_wp2_with fail
          go_end0
          refine ⟨rfl, ?_⟩
          rw [HCOMP.out, ← hp_all h v10 LH.out 8 rfl]
          exact HC.out
end BlkH
end Go.Proofs.YtpambhlhkmkagaaGreatDoor

namespace Go.Proofs.YtpambhlhkmkagaaGreatDoor
namespace BlkI
open Go.RowKit
open BlkM BlkA BlkG BlkH

/-! ### What a digest knows -/
def rng (l : List Int) : Prop := ∀ x ∈ l, 0 ≤ x ∧ x < 256
theorem rng_get {l : List Int} (h : rng l) (i : Nat) : 0 ≤ l.getD i 0 ∧ l.getD i 0 < 256 := by
  by_cases hi : i < l.length
  · rw [List.getD_eq_getElem?_getD, List.getElem?_eq_getElem hi]
    exact h _ (List.getElem_mem hi)
  · rw [List.getD_eq_getElem?_getD, List.getElem?_eq_none (by omega)]
    simp
theorem rng_take {l : List Int} (h : rng l) (n : Nat) : rng (l.take n) := fun x hx => h x (List.mem_of_mem_take hx)
theorem rng_drop {l : List Int} (h : rng l) (n : Nat) : rng (l.drop n) := fun x hx => h x (List.mem_of_mem_drop hx)
theorem rng_append {l m : List Int} (h : rng l) (k : rng m) : rng (l ++ m) := fun x hx => (List.mem_append.1 hx).elim (h x) (k x)
theorem rng_zero (n : Nat) : rng (List.replicate n 0) := fun x hx => by
  obtain ⟨_, rfl⟩ := List.mem_replicate.1 hx
  omega
def Dm (l : List Int) (k e : Nat) (blk : List Int) : Prop := blk.length = 64 ∧ rng blk ∧ l.length = 64 * k + e ∧ e ≤ 64 ∧ blk.take e = l.drop (64 * k)
def Dg (l : List Int) (c : List Value) : Prop := ∃ k e blk, Dm l k e blk ∧ (e = 0 → k = 0) ∧ c = dig (l.length : Int) (hs l k) blk (e : Int)
theorem Dg_nil : Dg [] BlkG.d0 := ⟨0, 0, n0, ⟨by simp [n0], rng_zero 64, rfl, by omega, rfl⟩, fun _ => rfl, rfl⟩
theorem Dm_full {l blk : List Int} {k : Nat} (h : Dm l k 64 blk) : comp (hs l k) blk (l.length : Int) 0 = hs l (k + 1) ∧ Dm l (k + 1) 0 blk := by
  obtain ⟨h1, h2, h3, h4, h5⟩ := h
  rw [List.take_of_length_le (by omega)] at h5
  refine ⟨?_, h1, h2, by omega, by omega, ?_⟩
  · rw [hs, h3, ← h5, List.take_of_length_le (by omega), show 64 * k + 64 = 64 * (k + 1) by omega]
  · rw [List.drop_of_length_le (by omega)]; rfl
theorem Dm_more {l blk : List Int} {k e : Nat} (h : Dm l k e blk) (news : List Int) (hr : rng news) (he : e + news.length ≤ 64) :
    Dm (l ++ news) k (e + news.length) (blk.take e ++ (news ++ blk.drop (e + news.length))) ∧ hs (l ++ news) k = hs l k := by
  obtain ⟨h1, h2, h3, h4, h5⟩ := h
  refine ⟨⟨?_, rng_append (rng_take h2 _) (rng_append hr (rng_drop h2 _)), by simp; omega, by omega, ?_⟩, hs_append l news k (by omega)⟩
  · simp; omega
  · rw [← List.append_assoc, List.take_append_of_le_length (by simp; omega), List.take_of_length_le (by simp; omega), h5, List.drop_append_of_le_length (by omega)]
theorem Dm_fin {l blk : List Int} {k e : Nat} (h : Dm l k e blk) (hk : e = 0 → k = 0) : comp (hs l k) (blk.take e ++ List.replicate (64 - e) 0) (l.length : Int) 4294967295 = BlkM.fin l := by
  obtain ⟨h1, h2, h3, h4, h5⟩ := h
  have hb : before l.length = k := by unfold before; omega
  unfold BlkM.fin pad
  rw [hb, h5]
  congr 3
  simp
  omega
/-- A part of a row in the midst of cells, written anew. -/
theorem splice (A B C S : List Value) (p m : Nat) (hS : S.length = m) (hp : p + m ≤ B.length) :
    (A ++ (B ++ C)).take (A.length + p) ++ (S ++ (A ++ (B ++ C)).drop (A.length + p + m)) = A ++ ((B.take p ++ (S ++ B.drop (p + m))) ++ C) := by
  rw [List.take_append, List.take_of_length_le (by omega), show A.length + p - A.length = p by omega, List.take_append_of_le_length (by omega),
    List.drop_append, List.drop_of_length_le (by omega), List.nil_append, show A.length + p + m - A.length = p + m by omega, List.drop_append_of_le_length (by omega)]
  simp
theorem dig_splice (pre : List Value) (n : Int) (h blk : List Int) (held : Int) (lh : h.length = 8) (news : List Int) (p m : Nat) (hm : news.length = m) (hp : p + m ≤ blk.length) :
    (pre ++ dig n h blk held).take (pre.length + 9 + p) ++ (b8 news ++ (pre ++ dig n h blk held).drop (pre.length + 9 + p + m)) = pre ++ dig n h (blk.take p ++ (news ++ blk.drop (p + m))) held := by
  have := splice (pre ++ (.int .u64 n :: w32 h)) (b8 blk) [.int .i64 held] (b8 news) p m (by rw [b8_len]; exact hm) (by rw [b8_len]; exact hp)
  rw [show (pre ++ (Value.int .u64 n :: w32 h)).length = pre.length + 9 by simp [w32_len, lh]] at this
  have e1 : pre ++ (Value.int .u64 n :: w32 h) ++ (b8 blk ++ [.int .i64 held]) = pre ++ dig n h blk held := by simp [dig]
  rw [e1] at this
  rw [this]
  simp [dig, b8, List.map_take, List.map_drop]

/-- Bytes handed in, not in block D. -/
def BAt (w : World) (D : Nat) (v : Value) (zs : List Int) : Prop := ∃ a cap, v = .slice a zs.length cap ∧ zs.length ≤ cap ∧ (zs ≠ [] → ∃ B o, a = some ⟨B, o, none⟩ ∧ B ≠ D ∧ B < w.heap.size ∧ ∀ i, i < zs.length → w.cell? ⟨B, o + i, none⟩ = some (.int .u8 (zs.getD i 0)))
def lenV : Value → Nat | .slice _ n _ => n | _ => 0
def Mid (w : World) (D : Nat) (pre : List Value) (l zs : List Int) (v : Value) (U : World) : Prop :=
  ∃ L R c, L ++ R = l ++ zs ∧ Dg L c ∧ Chg w D (pre ++ c) U ∧ BAt w D v R ∧ rng R
theorem slA (D o e : Nat) (he : e < 64) (Y : World) : (Instr.sliceAt 99 (.pointer (some ⟨D, o, none⟩)) (some (.int .i64 (e : Int))) none none).run Tryz.prog Y = .ok (.slice (some ⟨D, o + e, none⟩) (64 - e) (64 - e)) Y := by
  have ha : Tryz.prog.arrayLen 99 = 64 := by kernel_rfl
  rw [run_sliceAt_array_l Y 99 ⟨D, o, none⟩ (by kernel_rfl) .i64 (e : Int) (by omega) (by rw [ha]; omega), ha]
  have hs : (sizeOf (Tryz.prog.elem 99)).run Tryz.prog Y = .ok 1 Y := by kernel_rfl
  have hne : ¬ 64 = e := by omega
  rw [hs]
  simp [slicedAt, hne, Addr.add_mid]
theorem slB (a : Option Addr) (len cap m : Nat) (hm : m ≤ len) (_hc : len ≤ cap) (Y : World) : (Instr.sliceAt 35 (.slice a len cap) (some (.int .i64 (m : Int))) none none).run Tryz.prog Y = .ok (.slice (if cap = m then a else a.map (·.add m)) (len - m) (cap - m)) Y := by
  have hu : Tryz.prog.underlying 35 = some (.slice (Tryz.prog.elem 35)) := by kernel_rfl
  rw [run_sliceAt_slice Y 35 _ _ _ _ hu, run_slice_l Y 35 a len cap hu .i64 (m : Int) (by omega) (by omega)]
  have hs : (sizeOf (Tryz.prog.elem 35)).run Tryz.prog Y = .ok 1 Y := by kernel_rfl
  rw [hs]
  simp [sliced]

set_option maxRecDepth 10000 in
set_option maxHeartbeats 2000000 in
theorem write_any (w : World) (D off : Nat) (T : TypeId) (pre : List Value) (l zs : List Int) (c : List Value) (v : Value) (hat : At w D T (pre ++ c)) (hc : Dg l c) (hoff : pre.length = off) (hb : BAt w D v zs) (hr : rng zs)
    (hg : Glob w) (hD0 : D ≠ 0) (hlen : l.length + zs.length < 4611686018427387904) :
    Calls Tryz.prog 58 #[.pointer (some ⟨D, off, none⟩), v] w fun e w' => e = .returned (.tuple #[]) ∧ ∃ c', Dg (l ++ zs) c' ∧ Chg w D (pre ++ c') w' := by
  have HST := hide (show Mid w D pre l zs v w from ⟨l, zs, c, rfl, hc, Chg.self hat (Below.refl _ _), hb, hr⟩)
  have HAT := hide hat
  have HOFF := hide hoff
  have HG := hide hg
  have HD0 := hide hD0
  have HLEN := hide hlen
  obtain ⟨a0, cap0, rfl, _, _⟩ := hb
  clear hat hc hoff hr hg hD0 hlen
  go_enter Tryz.func58, Tryz.ntmps58
  go_wp2_with fail
  go_loopw [1] (fun v wr => Mid w D pre l zs v wr) (fun v _ => lenV v)
  case atStart => exact HST.out
  case round =>
    obtain ⟨L, R, c, hLR, hDg, hC, hBA, hrR⟩ := hrel
    obtain ⟨a, cap, rfl, hcap, hin⟩ := hBA
    have hLRl : L.length + R.length < 4611686018427387904 := by
      have := congrArg List.length hLR
      simp only [List.length_append] at this
      have := HLEN.out
      omega
    by_cases hR : R = []
    · subst hR
      have HF := hide (show ∃ c', Dg (l ++ zs) c' ∧ Chg w D (pre ++ c') wr from ⟨c, by rw [← hLR, List.append_nil]; exact hDg, hC⟩)
      clear hLR hDg hC hin hrR
      go_wp2_with fail
      go_end0
      exact ⟨rfl, HF.out⟩
    · obtain ⟨B, o, rfl, hBD, hBw, hcells⟩ := hin hR
      have hpos : 0 < R.length := List.length_pos_iff.2 hR
      obtain ⟨k, e, blk, hDm, hek, rfl⟩ := hDg
      have he64 := hDm.2.2.2.1
      have hbl := hDm.1
      have hLk := hDm.2.2.1
      have hA := hC.at HAT.out
      have ce : wr.cell? ⟨D, off + 73, none⟩ = some (.int .i64 (e : Int)) := by rw [hA.cell, ← HOFF.out, dig_held pre _ _ _ _ (hs_len _ _) hbl]
      have fe := hA.frozen (off + 73)
      have gtr : (0 : Int) < (R.length : Int) := by omega
      have HLR := hide hLR
      have HDm := hide hDm
      have HA := hide hA
      have HC := hide hC
      have HCE := hide hcells
      have HRR := hide hrR
      have HLK := hide hLk
      have HBL := hide hbl
      clear hLR hDm hA hC hcells hrR hin hek hLk hbl hR
      by_cases hfull : e = 64
      · subst hfull
        go_wp2_with ((go_at_call 79; refine (process_any _ D off T pre (L.length : Int) (hs L k) blk 64 0 (by exact HA.out) HOFF.out (hs_len _ _) HBL.out (rng_get HDm.out.2.1) (HG.out.chg HC.out HD0.out)).mono ?_; rintro e w1 ⟨rfl, hp⟩; rw [(Dm_full HDm.out).1] at hp; have cp := ((hp.at HA.out).cell (off + 73)).trans (by rw [← HOFF.out, dig_held pre _ _ _ _ (hs_len _ _) HBL.out]); have fp := (hp.at HA.out).frozen (off + 73)))
        obtain ⟨U1, eU1⟩ : ∃ X, X = w1.setCell ⟨D, off + 73, none⟩ (.int .i64 0) := ⟨_, rfl⟩
        rw [← eU1]
        obtain ⟨q, hq⟩ : ∃ q : Nat, q = 0 := ⟨0, rfl⟩
        have hq0 : (0 : Int) = (q : Int) := by omega
        have hq64 : q < 64 := by omega
        have hC1 := (HC.out.trans hp).setCell HAT.out (off + 73) (.int .i64 (q : Int))
        rw [← HOFF.out, set_held pre _ _ _ _ _ (hs_len _ _) HBL.out, HOFF.out] at hC1
        have HC1 := hide (show Chg w D (pre ++ dig (L.length : Int) (hs L (k + 1)) blk ((q : Nat) : Int)) U1 by rw [eU1, hq0]; exact hC1)
        have HDm1 := hide (show Dm L (k + 1) q blk by rw [hq]; exact (Dm_full HDm.out).2)
        clear hC1 eU1 hp cp fp ce fe HA HC HDm hq hq0
        have hA1 := HC1.out.at HAT.out
        have ce : U1.cell? ⟨D, off + 73, none⟩ = some (.int .i64 ((q : Nat) : Int)) := by rw [hA1.cell, ← HOFF.out, dig_held pre _ _ _ _ (hs_len _ _) HBL.out]
        have hsl := slA D (off + 9) q hq64
        obtain ⟨m, hm⟩ : ∃ m, m = Nat.min R.length (64 - q) := ⟨_, rfl⟩
        have hmR : m ≤ R.length := by rw [hm]; exact Nat.min_le_left _ _
        have hm64 : q + m ≤ 64 := by have : m ≤ 64 - q := (by rw [hm]; exact Nat.min_le_right _ _); omega
        have hm0 : 0 < m := by rw [hm]; exact Nat.lt_min.2 ⟨hpos, by omega⟩
        have hnl : (R.take m).length = m := by rw [List.length_take]; omega
        have hcl : (b8 (R.take m)).length = m := by rw [b8_len, hnl]
        have HA1 := hide hA1
        have HM := hide hm
        have HNL := hide hnl
        have HCL := hide hcl
        clear hA1 hm hnl hcl
        go_still_tail 9, (by kernel_rfl)
        refine wpList_copy_own (by rfl) _ _ _ _ (by rfl) 5 Tryz.underlying35 (by kernel_rfl) D (off + 9 + q) (64 - q) (64 - q) ⟨B, o, none⟩ R.length cap (by rfl) (by rfl) _ T (by exact HA1.out) (b8 (R.take m)) (by rw [HCL.out]; exact HM.out) ?_ ?_ ?_ ?_
        · intro j v hj
          have hjm : j < m := by have := (List.getElem?_eq_some_iff.1 hj).1; rw [HCL.out] at this; exact this
          rw [b8_get _ j (by rw [HNL.out]; exact hjm)] at hj
          have h1 := HCE.out j (by omega)
          have h2 := Below.cell HC1.out (p := ⟨B, o + j, none⟩) hBw
          rw [cell_setRow_other w D _ _ (by simpa using hBD), h1] at h2
          rw [Addr.add_mid]
          refine Eq.trans (show _ = U1.cell? ⟨B, o + j, none⟩ from rfl) (h2.trans ?_)
          rw [← hj]
          simp [List.getD, hjm]
        · rw [HCL.out, List.size_toArray, List.length_append, dig_len _ _ _ _ (hs_len _ _) HBL.out, ← HOFF.out]
          omega
        · intro v hv
          obtain ⟨x, _, rfl⟩ := List.mem_map.1 (show v ∈ (R.take m).map (Value.int .u8) from hv)
          rfl
        have hrow := dig_splice pre (L.length : Int) (hs L (k + 1)) blk ((q : Nat) : Int) (hs_len _ _) (R.take m) q m HNL.out (by rw [HBL.out]; exact hm64)
        obtain ⟨bl2, hbl2⟩ : ∃ z, z = blk.take q ++ (R.take m ++ blk.drop (q + m)) := ⟨_, rfl⟩
        rw [← hbl2, HOFF.out] at hrow
        rw [HCL.out, hrow]
        have hmore := Dm_more HDm1.out (R.take m) (rng_take HRR.out m) (by rw [HNL.out]; exact hm64)
        rw [HNL.out, ← hbl2] at hmore
        obtain ⟨U2, eU2⟩ : ∃ X, X = World.setRow { U1 with drawn := U1.drawn + 1 } D (pre ++ dig (L.length : Int) (hs L (k + 1)) bl2 ((q : Nat) : Int)).toArray := ⟨_, rfl⟩
        rw [← eU2]
        have hC2 : Chg w D (pre ++ dig (L.length : Int) (hs L (k + 1)) bl2 ((q : Nat) : Int)) U2 := by
          rw [eU2]
          have h1 := Below.setRow HC1.out.drew D (pre ++ dig (L.length : Int) (hs L (k + 1)) bl2 ((q : Nat) : Int)).toArray
          rw [setRow_setRow] at h1
          exact h1
        have hA2 := hC2.at HAT.out
        have c2 : U2.cell? ⟨D, off + 73, none⟩ = some (.int .i64 ((q : Nat) : Int)) := by rw [hA2.cell, ← HOFF.out, dig_held pre _ _ _ _ (hs_len _ _) hmore.1.1]
        have f2 := hA2.frozen (off + 73)
        have hC3 := hC2.setCell HAT.out (off + 73) (.int .i64 ((q + m : Nat) : Int))
        rw [← HOFF.out, set_held pre _ _ _ _ _ (hs_len _ _) hmore.1.1, HOFF.out] at hC3
        have hcast : ((q + m : Nat) : Int) = ((q : Nat) : Int) + (m : Int) := by omega
        have HC3 := hide hC3
        have HMORE := hide hmore
        have hsl2 := slB (some ⟨B, o, none⟩) R.length cap m hmR hcap
        have HSUM := hide (show 0 ≤ (L.length : Int) ∧ (L.length : Int) + (m : Int) < 18446744073709551616 by omega)
        rw [hcast] at HC3
        have HCAST := hide hcast
        clear hrow hbl2 hmore eU2 hC2 hA2 hC3 HC1 HDm1 ce hsl hcast HA1
        go_wp2_with ((go_at_call 80; refine (count_any _ D off T pre (L.length : Int) (hs L (k + 1)) bl2 (((q : Nat) : Int) + (m : Int)) m (by exact HC3.out.at HAT.out) HOFF.out HSUM.out.1 HSUM.out.2).mono ?_; rintro e w3 ⟨rfl, h3⟩))
        go_roundw
        case rel =>
          have hl2 : ((L ++ R.take m).length : Int) = (L.length : Int) + (m : Int) := by rw [List.length_append, HNL.out]; omega
          have hd2 : (R.drop m).length = R.length - m := by rw [List.length_drop]
          refine ⟨L ++ R.take m, R.drop m, dig ((L ++ R.take m).length : Int) (hs (L ++ R.take m) (k + 1)) bl2 ((q + m : Nat) : Int), ?_, ⟨(k + 1), q + m, bl2, HMORE.out.1, fun h => absurd h (by omega), rfl⟩, ?_, ?_, rng_drop HRR.out m⟩
          · rw [List.append_assoc, List.take_append_drop]
            exact HLR.out
          · rw [hl2, HMORE.out.2, HCAST.out]
            exact HC3.out.trans h3
          · by_cases hcm : cap = m
            · refine ⟨some ⟨B, o, none⟩, cap - m, by simp [hcm, hd2], by omega, fun hne => absurd ?_ hne⟩
              rw [← List.length_eq_zero_iff]
              omega
            · refine ⟨some ⟨B, o + m, none⟩, cap - m, by simp [hcm, hd2], by omega, fun _ => ⟨B, o + m, rfl, hBD, hBw, fun i hi => ?_⟩⟩
              rw [Nat.add_assoc, HCE.out (m + i) (by omega)]
              simp [List.getD, List.getElem?_drop]
        case measure => simp [lenV]; omega
      · have HC1 := hide HC.out
        have HDm1 := hide HDm.out
        have hne64 : ¬ (e : Int) = 64 := by omega
        have hlt64 : e < 64 := by omega
        go_wp2_with fail
        clear HA HC HDm ce fe
        have hA1 := HC1.out.at HAT.out
        have ce : wr.cell? ⟨D, off + 73, none⟩ = some (.int .i64 ((e : Nat) : Int)) := by rw [hA1.cell, ← HOFF.out, dig_held pre _ _ _ _ (hs_len _ _) HBL.out]
        have hsl := slA D (off + 9) e hlt64
        obtain ⟨m, hm⟩ : ∃ m, m = Nat.min R.length (64 - e) := ⟨_, rfl⟩
        have hmR : m ≤ R.length := by rw [hm]; exact Nat.min_le_left _ _
        have hm64 : e + m ≤ 64 := by have : m ≤ 64 - e := (by rw [hm]; exact Nat.min_le_right _ _); omega
        have hm0 : 0 < m := by rw [hm]; exact Nat.lt_min.2 ⟨hpos, by omega⟩
        have hnl : (R.take m).length = m := by rw [List.length_take]; omega
        have hcl : (b8 (R.take m)).length = m := by rw [b8_len, hnl]
        have HA1 := hide hA1
        have HM := hide hm
        have HNL := hide hnl
        have HCL := hide hcl
        clear hA1 hm hnl hcl
        go_still_tail 9, (by kernel_rfl)
        refine wpList_copy_own (by rfl) _ _ _ _ (by rfl) 5 Tryz.underlying35 (by kernel_rfl) D (off + 9 + e) (64 - e) (64 - e) ⟨B, o, none⟩ R.length cap (by rfl) (by rfl) _ T (by exact HA1.out) (b8 (R.take m)) (by rw [HCL.out]; exact HM.out) ?_ ?_ ?_ ?_
        · intro j v hj
          have hjm : j < m := by have := (List.getElem?_eq_some_iff.1 hj).1; rw [HCL.out] at this; exact this
          rw [b8_get _ j (by rw [HNL.out]; exact hjm)] at hj
          have h1 := HCE.out j (by omega)
          have h2 := Below.cell HC1.out (p := ⟨B, o + j, none⟩) hBw
          rw [cell_setRow_other w D _ _ (by simpa using hBD), h1] at h2
          rw [Addr.add_mid]
          refine Eq.trans (show _ = wr.cell? ⟨B, o + j, none⟩ from rfl) (h2.trans ?_)
          rw [← hj]
          simp [List.getD, hjm]
        · rw [HCL.out, List.size_toArray, List.length_append, dig_len _ _ _ _ (hs_len _ _) HBL.out, ← HOFF.out]
          omega
        · intro v hv
          obtain ⟨x, _, rfl⟩ := List.mem_map.1 (show v ∈ (R.take m).map (Value.int .u8) from hv)
          rfl
        have hrow := dig_splice pre (L.length : Int) (hs L k) blk ((e : Nat) : Int) (hs_len _ _) (R.take m) e m HNL.out (by rw [HBL.out]; exact hm64)
        obtain ⟨bl2, hbl2⟩ : ∃ z, z = blk.take e ++ (R.take m ++ blk.drop (e + m)) := ⟨_, rfl⟩
        rw [← hbl2, HOFF.out] at hrow
        rw [HCL.out, hrow]
        have hmore := Dm_more HDm1.out (R.take m) (rng_take HRR.out m) (by rw [HNL.out]; exact hm64)
        rw [HNL.out, ← hbl2] at hmore
        obtain ⟨U2, eU2⟩ : ∃ X, X = World.setRow { wr with drawn := wr.drawn + 1 } D (pre ++ dig (L.length : Int) (hs L k) bl2 ((e : Nat) : Int)).toArray := ⟨_, rfl⟩
        rw [← eU2]
        have hC2 : Chg w D (pre ++ dig (L.length : Int) (hs L k) bl2 ((e : Nat) : Int)) U2 := by
          rw [eU2]
          have h1 := Below.setRow HC1.out.drew D (pre ++ dig (L.length : Int) (hs L k) bl2 ((e : Nat) : Int)).toArray
          rw [setRow_setRow] at h1
          exact h1
        have hA2 := hC2.at HAT.out
        have c2 : U2.cell? ⟨D, off + 73, none⟩ = some (.int .i64 ((e : Nat) : Int)) := by rw [hA2.cell, ← HOFF.out, dig_held pre _ _ _ _ (hs_len _ _) hmore.1.1]
        have f2 := hA2.frozen (off + 73)
        have hC3 := hC2.setCell HAT.out (off + 73) (.int .i64 ((e + m : Nat) : Int))
        rw [← HOFF.out, set_held pre _ _ _ _ _ (hs_len _ _) hmore.1.1, HOFF.out] at hC3
        have hcast : ((e + m : Nat) : Int) = ((e : Nat) : Int) + (m : Int) := by omega
        have HC3 := hide hC3
        have HMORE := hide hmore
        have hsl2 := slB (some ⟨B, o, none⟩) R.length cap m hmR hcap
        have HSUM := hide (show 0 ≤ (L.length : Int) ∧ (L.length : Int) + (m : Int) < 18446744073709551616 by omega)
        rw [hcast] at HC3
        have HCAST := hide hcast
        clear hrow hbl2 hmore eU2 hC2 hA2 hC3 HC1 HDm1 ce hsl hcast HA1
        go_wp2_with ((go_at_call 80; refine (count_any _ D off T pre (L.length : Int) (hs L k) bl2 (((e : Nat) : Int) + (m : Int)) m (by exact HC3.out.at HAT.out) HOFF.out HSUM.out.1 HSUM.out.2).mono ?_; rintro e w3 ⟨rfl, h3⟩))
        go_roundw
        case rel =>
          have hl2 : ((L ++ R.take m).length : Int) = (L.length : Int) + (m : Int) := by rw [List.length_append, HNL.out]; omega
          have hd2 : (R.drop m).length = R.length - m := by rw [List.length_drop]
          refine ⟨L ++ R.take m, R.drop m, dig ((L ++ R.take m).length : Int) (hs (L ++ R.take m) k) bl2 ((e + m : Nat) : Int), ?_, ⟨k, e + m, bl2, HMORE.out.1, fun h => absurd h (by omega), rfl⟩, ?_, ?_, rng_drop HRR.out m⟩
          · rw [List.append_assoc, List.take_append_drop]
            exact HLR.out
          · rw [hl2, HMORE.out.2, HCAST.out]
            exact HC3.out.trans h3
          · by_cases hcm : cap = m
            · refine ⟨some ⟨B, o, none⟩, cap - m, by simp [hcm, hd2], by omega, fun hne => absurd ?_ hne⟩
              rw [← List.length_eq_zero_iff]
              omega
            · refine ⟨some ⟨B, o + m, none⟩, cap - m, by simp [hcm, hd2], by omega, fun _ => ⟨B, o + m, rfl, hBD, hBw, fun i hi => ?_⟩⟩
              rw [Nat.add_assoc, HCE.out (m + i) (by omega)]
              simp [List.getD, List.getElem?_drop]
        case measure => simp [lenV]; omega
end BlkI
end Go.Proofs.YtpambhlhkmkagaaGreatDoor

namespace Go.Proofs.YtpambhlhkmkagaaGreatDoor
namespace BlkJ
open Go.RowKit
open BlkM BlkA BlkG BlkH BlkI

/-! ### Cells written one after another -/
def putL {α : Type} : List α → Nat → List α → List α
  | cs, _, [] => cs
  | cs, o, v :: r => putL (cs.set o v) (o + 1) r
theorem chg_setCells {w : World} {V : Nat} {T : TypeId} {c0 : List Value} (h0 : At w V T c0) : ∀ (vs : List Value) (o : Nat) (cs : List Value) (w1 : World), Chg w V cs w1 → Chg w V (putL cs o vs) (w1.setCells V o vs)
  | [], _, _, _, h => h
  | v :: r, o, cs, w1, h => by
    unfold putL World.setCells
    exact chg_setCells h0 r (o + 1) _ _ (h.setCell h0 o v)
theorem putL_eq {α : Type} : ∀ (vs cs : List α) (o : Nat), o + vs.length ≤ cs.length → putL cs o vs = cs.take o ++ (vs ++ cs.drop (o + vs.length))
  | [], cs, o, _ => by simp [putL]
  | v :: r, cs, o, h => by
    simp only [List.length_cons] at h
    rw [putL, putL_eq r _ (o + 1) (by rw [List.length_set]; omega), List.take_set, List.drop_set_of_lt (by omega)]
    have hl : o < cs.length := by omega
    rw [List.take_succ_eq_append_getElem hl, List.set_append_right _ _ (by simp; omega)]
    simp [Nat.min_eq_left (Nat.le_of_lt hl), List.length_cons]
    congr 1
    omega
theorem putL_dig (pre : List Value) (n : Int) (h : List Int) (held : Int) (lh : h.length = 8) : ∀ (zs blk : List Int) (e : Nat), blk.length = 64 → e + zs.length ≤ 64 → putL (pre ++ dig n h blk held) (pre.length + 9 + e) (b8 zs) = pre ++ dig n h (putL blk e zs) held
  | [], _, _, _, _ => rfl
  | z :: r, blk, e, hb, he => by
    simp only [List.length_cons] at he
    show putL ((pre ++ dig n h blk held).set (pre.length + 9 + e) (.int .u8 z)) (pre.length + 9 + e + 1) (b8 r) = _
    rw [set_b pre n h blk held lh hb e (by omega) z, Nat.add_assoc (pre.length + 9) e 1, putL_dig pre n h held lh r _ (e + 1) (by rw [List.length_set]; exact hb) (by omega)]
    rfl
/-- The hash, when some bytes have come. -/
def op (h : List Int) : Nat → List Int
  | 0 => List.replicate 32 0
  | k + 1 => (op h k).set k (BlkM.byteOf h k)
theorem op_len (h : List Int) : ∀ k, (op h k).length = 32
  | 0 => rfl
  | k + 1 => by rw [op, List.length_set, op_len h k]
theorem op_get (h : List Int) : ∀ k, k ≤ 32 → ∀ i, i < k → (op h k).getD i 0 = BlkM.byteOf h i
  | 0, _, i, hi => by omega
  | k + 1, hk, i, hi => by
    have hl : k < (op h k).length := by rw [op_len]; omega
    rw [op]
    by_cases e : k = i
    · subst e
      simp [List.getD, hl]
    · rw [← op_get h k (by omega) i (by omega)]
      simp [List.getD, e]
theorem op_all (h : List Int) (z : Nat) (hz : z = 32) : op h z = out h := by
  apply List.ext_getElem
  · rw [op_len, out_len]
  · intro i h1 h2
    have h3 := op_get h z (by omega) i (by rw [op_len] at h1; omega)
    rw [List.getD_eq_getElem?_getD, List.getElem?_eq_getElem h1] at h3
    have h4 : (out h)[i] = BlkM.byteOf h i := by simp [out]
    rw [h4, ← h3]
    rfl
theorem slC (D o e : Nat) (he : e ≤ 64) (Y : World) : (Instr.sliceAt 99 (.pointer (some ⟨D, o, none⟩)) (some (.int .i64 (e : Int))) none none).run Tryz.prog Y = .ok (.slice (some (if 64 = e then ⟨D, o, none⟩ else ⟨D, o + e, none⟩)) (64 - e) (64 - e)) Y := by
  have ha : Tryz.prog.arrayLen 99 = 64 := by kernel_rfl
  rw [run_sliceAt_array_l Y 99 ⟨D, o, none⟩ (by kernel_rfl) .i64 (e : Int) (by omega) (by rw [ha]; omega), ha]
  have hs : (sizeOf (Tryz.prog.elem 99)).run Tryz.prog Y = .ok 1 Y := by kernel_rfl
  rw [hs]
  simp [slicedAt, Addr.add_mid]
theorem wrap8 (n : Int) : IntKind.u8.wrap n = n % 256 := by simp [IntKind.wrap, IntKind.bits, IntKind.signed]
theorem zero8 (w : World) : (zeroValue 5).run Tryz.prog w = .ok (.int .u8 0) w := by kernel_rfl

def MidJ (W1 : World) (h : List Int) (i : Value) (U : World) : Prop :=
  ∃ k : Nat, k ≤ 32 ∧ i = .int .i64 (k : Int) ∧ At U W1.heap.size 39 (b8 (op h k)) ∧ Below W1.heap.size W1 U

set_option maxRecDepth 10000 in
set_option maxHeartbeats 2000000 in
theorem sum_any (w : World) (l : List Int) (c : List Value) (hc : Dg l c) (hg : Glob w) :
    Calls Tryz.prog 59 #[.agg c.toArray] w fun e w' => e = .returned (.agg (b8 (sumL l)).toArray) ∧ Below w.heap.size w w' := by
  obtain ⟨k, e, blk, hDm, hek, rfl⟩ := hc
  have hbl := hDm.1
  have he := hDm.2.2.2.1
  obtain ⟨W0, eW0⟩ : ∃ X, X = ((w.alloc (.cells (dig (l.length : Int) (hs l k) blk (e : Int)).toArray 101)).alloc (.cells #[Value.int .u8 0, Value.int .u8 0, Value.int .u8 0, Value.int .u8 0, Value.int .u8 0, Value.int .u8 0, Value.int .u8 0, Value.int .u8 0, Value.int .u8 0, Value.int .u8 0, Value.int .u8 0, Value.int .u8 0, Value.int .u8 0, Value.int .u8 0, Value.int .u8 0, Value.int .u8 0, Value.int .u8 0, Value.int .u8 0, Value.int .u8 0, Value.int .u8 0, Value.int .u8 0, Value.int .u8 0, Value.int .u8 0, Value.int .u8 0, Value.int .u8 0, Value.int .u8 0, Value.int .u8 0, Value.int .u8 0, Value.int .u8 0, Value.int .u8 0, Value.int .u8 0, Value.int .u8 0] 39)) := ⟨_, rfl⟩
  have hA0 : At W0 w.heap.size 101 (dig (l.length : Int) (hs l k) blk (e : Int)) := by rw [eW0]; exact At.alloc (At.new w _ _) _
  have hz0 : At W0 (w.heap.size + 1) 39 (b8 (List.replicate 32 0)) := by
    rw [eW0]
    have := At.new (w.alloc (.cells (dig (l.length : Int) (hs l k) blk (e : Int)).toArray 101)) 39 (b8 (List.replicate 32 0))
    rw [World.size_alloc] at this
    exact this
  have hB0 : Below w.heap.size w W0 := by rw [eW0]; exact Below.alloc (Below.alloc (Below.refl _ _) (Nat.le_refl _) _) (by simp) _
  have hs0 : W0.heap.size = w.heap.size + 2 := by rw [eW0]; simp
  have ce : W0.cell? ⟨w.heap.size, 73, none⟩ = some (.int .i64 (e : Int)) := by
    have := dig_held [] (l.length : Int) (hs l k) blk (e : Int) (hs_len _ _) hbl
    rw [hA0.cell]
    simpa using this
  have hsl := slC w.heap.size 9 e he
  obtain ⟨W1, hC1, hcl⟩ : ∃ W1, Chg W0 w.heap.size (dig (l.length : Int) (hs l k) (blk.take e ++ List.replicate (64 - e) 0) (e : Int)) W1 ∧ ∀ ty, (Builtin.clear_ #[35] ty #[.slice (some (if 64 = e then ⟨w.heap.size, 9, none⟩ else ⟨w.heap.size, 9 + e, none⟩)) (64 - e) (64 - e)]).run Tryz.prog W0 = .ok (.tuple #[]) W1 := by
    by_cases h64 : e = 64
    · subst h64
      refine ⟨W0, ?_, fun ty => by simp [Builtin.clear_, run_underlying Tryz.underlying35]⟩
      have := Chg.self hA0 (Below.refl _ _)
      rw [List.take_of_length_le (by omega)]
      simpa using this
    · have hne : ¬ 64 = e := fun h => h64 h.symm
      refine ⟨W0.setCells w.heap.size (9 + e) (List.replicate (64 - e) (.int .u8 0)), ?_, fun ty => ?_⟩
      · have h1 := chg_setCells hA0 (b8 (List.replicate (64 - e) 0)) (9 + e) _ _ (Chg.self hA0 (Below.refl _ _))
        have h2 := putL_dig [] (l.length : Int) (hs l k) (e : Int) (hs_len _ _) (List.replicate (64 - e) 0) blk e hbl (by simp; omega)
        rw [putL_eq (List.replicate (64 - e) (0 : Int)) blk e (by simp; omega), List.length_replicate, List.drop_of_length_le (by omega), List.append_nil] at h2
        simp only [List.length_nil, Nat.zero_add, List.nil_append] at h2
        rw [h2, zeros8] at h1
        exact h1
      · rw [if_neg hne]
        exact Lib.run_clear_slice W0 35 5 ty (.int .u8 0) Tryz.underlying35 zero8 rfl rfl w.heap.size (9 + e) (64 - e) (64 - e) (by omega)
          (fun j hj => by rw [hA0.cell]; exact (by
            have := dig_b [] (l.length : Int) (hs l k) blk (e : Int) (hs_len _ _) hbl (e + j) (by omega)
            simp only [List.length_nil, Nat.zero_add, List.nil_append] at this
            rw [Nat.add_assoc, this]; rfl))
          (fun j hj => hA0.frozen _)
  obtain ⟨p, hp⟩ : ∃ p : Addr, (if 64 = e then (⟨w.heap.size, 9, none⟩ : Addr) else ⟨w.heap.size, 9 + e, none⟩) = p := ⟨_, rfl⟩
  simp only [hp] at hsl hcl
  clear hp
  have hfin := Dm_fin hDm hek
  have hlb2 : (blk.take e ++ List.replicate (64 - e) 0).length = 64 := by simp; omega
  have hrb2 : rng (blk.take e ++ List.replicate (64 - e) 0) := rng_append (rng_take hDm.2.1 _) (rng_zero _)
  have HE0 := hide eW0
  have HA0 := hide hA0
  have HZ0 := hide hz0
  have HB0 := hide hB0
  have HS0 := hide hs0
  have HC1 := hide hC1
  have HFIN := hide hfin
  have HLB := hide hlb2
  have HRB := hide hrb2
  have HG := hide hg
  clear eW0 hA0 hz0 hB0 hs0 hC1 hfin hlb2 hrb2 hg hDm hek hbl
  go_enter Tryz.func59, Tryz.ntmps59
  go_upto_region 1 with (fail)
  rw [← HE0.out]
  go_wp2_with (first
    | (go_at_call 79; refine (process_any _ w.heap.size 0 101 [] (l.length : Int) (hs l k) _ (e : Int) 4294967295 (by exact HC1.out.at HA0.out) rfl (hs_len _ _) HLB.out (rng_get HRB.out) ((HG.out.below HB0.out (by have := HG.out.1; omega)).chg HC1.out (by have := HG.out.1; omega))).mono ?_; rintro e w2 ⟨rfl, hp⟩; rw [HFIN.out] at hp))
  have hA2 := hp.at (HC1.out.at HA0.out)
  have hB2 : Below w.heap.size w w2 := (HB0.out.trans (HC1.out.below_of (Nat.le_refl _) (by have := HS0.out; omega))).trans (hp.below_of (Nat.le_refl _) (by have := HC1.out.size; have := HS0.out; omega))
  have hZ2 := hp.other (HC1.out.other HZ0.out (by omega)) (by omega)
  have hst : MidJ w2 (BlkM.fin l) (.int .i64 0) (w2.alloc (.cells #[Value.int .u8 0, Value.int .u8 0, Value.int .u8 0, Value.int .u8 0, Value.int .u8 0, Value.int .u8 0, Value.int .u8 0, Value.int .u8 0, Value.int .u8 0, Value.int .u8 0, Value.int .u8 0, Value.int .u8 0, Value.int .u8 0, Value.int .u8 0, Value.int .u8 0, Value.int .u8 0, Value.int .u8 0, Value.int .u8 0, Value.int .u8 0, Value.int .u8 0, Value.int .u8 0, Value.int .u8 0, Value.int .u8 0, Value.int .u8 0, Value.int .u8 0, Value.int .u8 0, Value.int .u8 0, Value.int .u8 0, Value.int .u8 0, Value.int .u8 0, Value.int .u8 0, Value.int .u8 0] 39)) := ⟨0, by omega, rfl, At.new w2 39 (b8 (List.replicate 32 0)), (by repeat (first | assumption | exact Below.refl _ _ | refine Below.setCell ?_ (by first | omega | (simp; done) | (simp; omega)) _ | refine below_drewN ?_ _ | refine Below.drew ?_ | refine Below.alloc ?_ (by first | omega | (simp; done) | (simp; omega)) _ | refine Below.trans ?_ (Below.mono (by assumption) (by first | omega | (simp; done) | (simp; omega)))))⟩
  have HST := hide hst
  have HA2 := hide hA2
  have HB2 := hide hB2
  have HZ2 := hide hZ2
  have hz2l : w.heap.size + 1 < w2.heap.size := hZ2.lt
  clear hA2 hB2 hZ2 hst hp
  go_loopw [10] (fun i wr => MidJ w2 (BlkM.fin l) i wr) (fun i _ => 32 - (intOf i).toNat)
  case atStart => exact HST.out
  case round =>
    obtain ⟨k, hk, rfl, hm, hB⟩ := hrel
    by_cases hlt : k < 32
    · obtain ⟨i, n, hi, hn, hkn⟩ : ∃ i n : Nat, i < 8 ∧ n < 4 ∧ k = 4 * i + n := ⟨k / 4, k % 4, by omega, by omega, by omega⟩
      obtain ⟨H, hH⟩ : ∃ z, (BlkM.fin l).getD i 0 = z := ⟨_, rfl⟩
      have cH : wr.cell? ⟨w.heap.size, 1 + i, none⟩ = some (.int .u32 H) := by
        have := dig_h [] (l.length : Int) (BlkM.fin l) (blk.take e ++ List.replicate (64 - e) 0) (e : Int) (fin_len l) i hi
        simp only [List.length_nil, Nat.zero_add] at this
        rw [(HA2.out.below hB (by omega)).cell, this, hH]
      have ck := hm.cell k
      rw [b8_get _ k (by rw [op_len]; exact hlt)] at ck
      have fk := hm.frozen k
      have q1 : (k : Int) / 4 = (i : Int) := by omega
      have q3 : (k : Int).tdiv 4 = (i : Int) := by rw [Int.tdiv_eq_ediv_of_nonneg (by omega)]; exact q1
      have NQ : (k : Int) % 4 = (n : Int) := by omega
      have NQ2 : (k : Int).tmod 4 = (n : Int) := by rw [Int.tmod_eq_emod_of_nonneg (by omega)]; exact NQ
      have hi2 : (i : Int) < 8 := by omega
      have hk2 : (k : Int) < 32 := by omega
      have HM := hide hm
      have HB := hide hB
      have HN := hide hkn
      have HH := hide hH
      clear hm hB hkn hH
      match n, hn with
      | 0, _ =>
        obtain ⟨z, hz⟩ : ∃ z, H % 256 = z := ⟨_, rfl⟩
        have HZ := hide hz
        go_wp2_with fail
        go_roundw
        case rel =>
          have e1 : k / 4 = i := by have := HN.out; omega
          have e2 : k % 4 = 0 := by have := HN.out; omega
          have e3 : BlkM.byteOf (BlkM.fin l) k = z := by
            unfold BlkM.byteOf
            rw [e1, e2, HH.out, wrap8, ← HZ.out]
            rw [show 8 * 0 = 0 from rfl, Int.pow_zero, Int.ediv_one]
          refine ⟨k + 1, by omega, by go_num, ?_, Below.setCell HB.out (by simp) _⟩
          rw [op, e3, ← b8_set]
          exact HM.out.setCell k _
        case measure => simp [intOf]; omega
      | 1, _ =>
        obtain ⟨z, hz⟩ : ∃ z, H / 256 % 256 = z := ⟨_, rfl⟩
        have HZ := hide hz
        go_wp2_with fail
        go_roundw
        case rel =>
          have e1 : k / 4 = i := by have := HN.out; omega
          have e2 : k % 4 = 1 := by have := HN.out; omega
          have e3 : BlkM.byteOf (BlkM.fin l) k = z := by
            unfold BlkM.byteOf
            rw [e1, e2, HH.out, wrap8, ← HZ.out]
            rfl
          refine ⟨k + 1, by omega, by go_num, ?_, Below.setCell HB.out (by simp) _⟩
          rw [op, e3, ← b8_set]
          exact HM.out.setCell k _
        case measure => simp [intOf]; omega
      | 2, _ =>
        obtain ⟨z, hz⟩ : ∃ z, H / 65536 % 256 = z := ⟨_, rfl⟩
        have HZ := hide hz
        go_wp2_with fail
        go_roundw
        case rel =>
          have e1 : k / 4 = i := by have := HN.out; omega
          have e2 : k % 4 = 2 := by have := HN.out; omega
          have e3 : BlkM.byteOf (BlkM.fin l) k = z := by
            unfold BlkM.byteOf
            rw [e1, e2, HH.out, wrap8, ← HZ.out]
            rfl
          refine ⟨k + 1, by omega, by go_num, ?_, Below.setCell HB.out (by simp) _⟩
          rw [op, e3, ← b8_set]
          exact HM.out.setCell k _
        case measure => simp [intOf]; omega
      | 3, _ =>
        obtain ⟨z, hz⟩ : ∃ z, H / 16777216 % 256 = z := ⟨_, rfl⟩
        have HZ := hide hz
        go_wp2_with fail
        go_roundw
        case rel =>
          have e1 : k / 4 = i := by have := HN.out; omega
          have e2 : k % 4 = 3 := by have := HN.out; omega
          have e3 : BlkM.byteOf (BlkM.fin l) k = z := by
            unfold BlkM.byteOf
            rw [e1, e2, HH.out, wrap8, ← HZ.out]
            rfl
          refine ⟨k + 1, by omega, by go_num, ?_, Below.setCell HB.out (by simp) _⟩
          rw [op, e3, ← b8_set]
          exact HM.out.setCell k _
        case measure => simp [intOf]; omega
    · obtain rfl : k = 32 := by omega
      rw [op_all _ 32 rfl] at hm
      have HM := hide hm
      have hz3 := HZ2.out.below hB hz2l
      have HZ3 := hide hz3
      have HZ4 := hide (hz3.put (b8 (out (BlkM.fin l))))
      have HB4 := hide (Below.setRowOwn (HB2.out.trans (hB.mono (by omega))) (Nat.le_succ w.heap.size) (b8 (out (BlkM.fin l))).toArray)
      have HL : (b8 (out (BlkM.fin l))).length = 32 := by rw [b8_len, out_len]
      have HLEN := hide HL
      clear hm hB hz3 HL
      go_upto_region 9 with (fail)
      refine wp_region_lit ?_
      refine stepLoad (by rfl) _ _ (by rfl) _ (by rfl) HM.out (.array 32 5) 32 Tryz.underlying39 rfl (by kernel_rfl) HLEN.out ?_
      refine stepStore (by rfl) _ _ _ (by rfl) _ _ (by rfl) (by rfl) HZ3.out 32 (by kernel_rfl) (by rw [b8_len]; rfl) HLEN.out (oneCells_b8 _) ?_
      go_wp2_with fail
      exact bodyPost_ret (retRow HZ4.out Tryz.results59 _ (by rfl) (.array 32 5) 32 Tryz.underlying39 rfl (by kernel_rfl) HLEN.out) rfl ⟨rfl, HB4.out⟩
end BlkJ
end Go.Proofs.YtpambhlhkmkagaaGreatDoor

namespace Go.Proofs.YtpambhlhkmkagaaGreatDoor
namespace BlkK
open Go.RowKit
open BlkM BlkA BlkG BlkH BlkI BlkJ

theorem stepCall {P : Program} {ops : Array Oper} {rest : List Oper} {o : Oper} {a : Act} {w : World} {Q : Exit → Act → World → Prop} {f : FuncId} {args : Array Value} {v : Value} {R : World → Prop} (hgd : o.guard = none) (hrun : (execOp a.eval o).run P w = .ok (.enter f args) w)
    (hc : Calls P f args w fun e w' => e = .returned v ∧ R w') (h : ∀ w', R w' → wpList P ops Q rest (a.put o.dst v) w') : wpList P ops Q (o :: rest) a w :=
  wpList_plain hgd fun _ hK => by
    unfold Oper.wp
    rw [hrun, Oper.upon_enter]
    exact hc.mono (by rintro e w' ⟨rfl, hr⟩; exact hK _ _ (h w' hr))
theorem c_len {l : List Int} {c : List Value} (h : Dg l c) : c.length = 74 := by
  obtain ⟨k, e, blk, hDm, _, rfl⟩ := h
  exact dig_len _ _ _ _ (hs_len _ _) hDm.1
/-- Bytes handed in. -/
def BIn (w : World) (v : Value) (zs : List Int) : Prop := ∃ a cap, v = .slice a zs.length cap ∧ zs.length ≤ cap ∧ (zs ≠ [] → ∃ B o, a = some ⟨B, o, none⟩ ∧ B < w.heap.size ∧ ∀ i, i < zs.length → w.cell? ⟨B, o + i, none⟩ = some (.int .u8 (zs.getD i 0)))
theorem BIn.below {w w' : World} {v : Value} {zs : List Int} (h : BIn w v zs) (hb : Below w.heap.size w w') : BIn w' v zs := by
  obtain ⟨a, cap, e, hc, hn⟩ := h
  refine ⟨a, cap, e, hc, fun hz => ?_⟩
  obtain ⟨B, o, e2, hB, hcell⟩ := hn hz
  exact ⟨B, o, e2, Nat.lt_of_lt_of_le hB hb.size, fun i hi => (hb.cell (p := ⟨B, o + i, none⟩) hB).trans (hcell i hi)⟩
theorem BIn.at {w w' : World} {D : Nat} {v : Value} {zs : List Int} (h : BIn w v zs) (hb : Below w.heap.size w w') (hD : w.heap.size ≤ D) : BAt w' D v zs := by
  obtain ⟨a, cap, e, hc, hn⟩ := h
  refine ⟨a, cap, e, hc, fun hz => ?_⟩
  obtain ⟨B, o, e2, hB, hcell⟩ := hn hz
  exact ⟨B, o, e2, by omega, Nat.lt_of_lt_of_le hB hb.size, fun i hi => (hb.cell (p := ⟨B, o + i, none⟩) hB).trans (hcell i hi)⟩

set_option maxRecDepth 10000 in
set_option maxHeartbeats 1000000 in
theorem sumP_any (w : World) (v : Value) (zs : List Int) (hb : BIn w v zs) (hr : rng zs) (hg : Glob w) (hlen : zs.length < 4611686018427387904) :
    Calls Tryz.prog 34 #[v] w fun e w' => e = .returned (.agg (b8 (sumL zs)).toArray) ∧ Below w.heap.size w w' := by
  obtain ⟨W0, eW0⟩ : ∃ X, X = w.alloc (.cells #[Value.int .u8 0, Value.int .u8 0, Value.int .u8 0, Value.int .u8 0, Value.int .u8 0, Value.int .u8 0, Value.int .u8 0, Value.int .u8 0, Value.int .u8 0, Value.int .u8 0, Value.int .u8 0, Value.int .u8 0, Value.int .u8 0, Value.int .u8 0, Value.int .u8 0, Value.int .u8 0, Value.int .u8 0, Value.int .u8 0, Value.int .u8 0, Value.int .u8 0, Value.int .u8 0, Value.int .u8 0, Value.int .u8 0, Value.int .u8 0, Value.int .u8 0, Value.int .u8 0, Value.int .u8 0, Value.int .u8 0, Value.int .u8 0, Value.int .u8 0, Value.int .u8 0, Value.int .u8 0] 39) := ⟨_, rfl⟩
  have hB0 : Below w.heap.size w W0 := by rw [eW0]; exact (by repeat (first | assumption | exact Below.refl _ _ | refine Below.setCell ?_ (by first | omega | (simp; done) | (simp; omega)) _ | refine below_drewN ?_ _ | refine Below.drew ?_ | refine Below.alloc ?_ (by first | omega | (simp; done) | (simp; omega)) _ | refine Below.trans ?_ (Below.mono (by assumption) (by first | omega | (simp; done) | (simp; omega)))))
  have hz0 : At W0 w.heap.size 39 (b8 (List.replicate 32 0)) := by rw [eW0]; exact At.new w 39 (b8 (List.replicate 32 0))
  have hs0 : W0.heap.size = w.heap.size + 1 := by rw [eW0]; simp
  have hg0 : Glob W0 := hg.below hB0 hg.1
  have E0 := hide eW0
  have HB0 := hide hB0
  have HZ0 := hide hz0
  have HS0 := hide hs0
  have HG0 := hide hg0
  have HG := hide hg
  have HR := hide hr
  have HBI := hide hb
  have HLEN := hide hlen
  obtain ⟨a0, cap0, rfl, _, _⟩ := hb
  clear eW0 hB0 hz0 hs0 hg0 hr hlen hg
  go_enter Tryz.func34, Tryz.ntmps34
  go_upto_region 1 with (fail)
  rw [← E0.out]
  refine wp_region_lit ?_
  refine stepCall (by rfl) (by kernel_rfl) (start_any W0 HG0.out) ?_
  intro w1 hb1
  have hB1 : Below w.heap.size w w1 := HB0.out.trans (hb1.mono (by have := HS0.out; omega))
  refine stepVal (v := .pointer (some ⟨w1.heap.size, 0, none⟩)) (w' := w1.alloc (.cells BlkG.z0.toArray 101)) (by rfl) (al _ _ rfl w1) ?_
  refine stepStore (by rfl) _ _ _ (by rfl) _ BlkG.d0 (by rfl) (by rfl) (At.new w1 101 BlkG.z0) 74 (by kernel_rfl) (by rfl) (by rfl) (by kernel_rfl) ?_
  obtain ⟨W2, eW2⟩ : ∃ X, X = (w1.alloc (.cells BlkG.z0.toArray 101)).setRow w1.heap.size BlkG.d0.toArray := ⟨_, rfl⟩
  rw [← eW2]
  have hA2 : At W2 w1.heap.size 101 BlkG.d0 := by rw [eW2]; exact (At.new w1 101 BlkG.z0).put BlkG.d0
  have hB2 : Below w1.heap.size w1 W2 := by rw [eW2]; exact Below.setRowOwn (Below.alloc (Below.refl _ _) (Nat.le_refl _) _) (Nat.le_refl _) _
  have hB2w : Below w.heap.size w W2 := hB1.trans (hB2.mono hB1.size)
  have hz2 : At W2 w.heap.size 39 (b8 (List.replicate 32 0)) := (HZ0.out.below hb1 HZ0.out.lt).below hB2 (by have := HZ0.out.lt; have := hb1.size; omega)
  have hDw : w.heap.size < w1.heap.size := by have := HS0.out; have := hb1.size; omega
  have HA2 := hide hA2
  have HB2 := hide hB2w
  have HZ2 := hide hz2
  clear hb1 hB1 eW2 hA2 hB2 hB2w hz2
  go_upto_region 3 with ((go_at_call 58; refine (write_any W2 w1.heap.size 0 101 [] [] zs BlkG.d0 _ (by exact HA2.out) Dg_nil rfl (HBI.out.at HB2.out (Nat.le_of_lt hDw)) HR.out (HG.out.below HB2.out HG.out.1) (by omega) (by have := HLEN.out; simp; omega)).mono ?_; rintro e w3 ⟨rfl, c', hDg, hC⟩))
  have hA3 : At w3 w1.heap.size 101 c' := hC.at HA2.out
  have hB3 : Below w.heap.size w w3 := HB2.out.trans (hC.below_of (Nat.le_of_lt hDw) HB2.out.size)
  have hz3 := hC.other HZ2.out (by omega)
  refine wp_region_lit ?_
  refine stepLoad (by rfl) _ _ (by rfl) _ (by rfl) hA3 _ 74 Tryz.underlying101 rfl (by kernel_rfl) (c_len hDg) ?_
  refine stepCall (by rfl) (by kernel_rfl) (sum_any w3 zs c' hDg (HG.out.below hB3 HG.out.1)) ?_
  intro w4 hb4
  have hz4 := hz3.below hb4 hz3.lt
  have hB4 : Below w.heap.size w w4 := hB3.trans (hb4.mono hB3.size)
  refine stepStore (by rfl) _ _ _ (by rfl) _ (b8 (sumL zs)) (by rfl) (by rfl) hz4 32 (by kernel_rfl) (by rw [b8_len]; rfl) (by rw [b8_len, sumL_len]) (oneCells_b8 _) ?_
  have HZ5 := hide (hz4.put (b8 (sumL zs)))
  have HB5 := hide (Below.setRowOwn hB4 (Nat.le_refl w.heap.size) (b8 (sumL zs)).toArray)
  clear hz4 hB4 hb4 hA3 hB3 hz3 hC hDg
  go_wp2_with fail
  exact bodyPost_ret (retRow HZ5.out Tryz.results34 _ (by rfl) (.array 32 5) 32 Tryz.underlying39 rfl (by kernel_rfl) (by rw [b8_len, sumL_len])) rfl ⟨rfl, HB5.out⟩

/-! ### States -/
end BlkK
end Go.Proofs.YtpambhlhkmkagaaGreatDoor

