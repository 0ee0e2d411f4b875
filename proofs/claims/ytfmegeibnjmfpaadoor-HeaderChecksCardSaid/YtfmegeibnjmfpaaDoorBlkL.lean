/-
  A hash's text, by package blake.
-/
import Derived.Test.YtfmegeibnjmfpaaDoorBlkK
import Derived.Test.YtfmegeibnjmfpaaDoorHexM
import Derived.OneCell
namespace Go.Proofs.YtfmegeibnjmfpaaDoor
namespace BlkL
open Go.RowKit
open BlkM BlkA BlkI BlkJ BlkK HexM

/-! ### The text of a hash -/
def hi (x : Int) : Int := hexd (x.toNat / 16)
def lo (x : Int) : Int := hexd (x.toNat % 16)
def tx : List Int → List Int
  | [] => []
  | x :: l => hi x :: lo x :: tx l
theorem tx_len : ∀ l, (tx l).length = 2 * l.length
  | [] => rfl
  | x :: l => by simp [tx, tx_len l]; omega
theorem tx_append : ∀ l m, tx (l ++ m) = tx l ++ tx m
  | [], _ => rfl
  | x :: l, m => by simp [tx, tx_append l m]
def hashText (l : List Int) : ByteArray := strOfNums (tx l)
theorem hashText_size (l : List Int) (h : l.length = 32) : (hashText l).size = 64 := by
  unfold hashText
  rw [strOfNums_size, tx_len, h]
/-- The text's bytes, when some are there. -/
def tp (l : List Int) (k : Nat) : List Int := tx (l.take k) ++ List.replicate (64 - 2 * k) 0
theorem tp_len (l : List Int) (h : l.length = 32) (k : Nat) (hk : k ≤ 32) : (tp l k).length = 64 := by
  simp [tp, tx_len, h, Nat.min_eq_left hk]
  omega
theorem tp_step (l : List Int) (h : l.length = 32) (k : Nat) (hk : k < 32) : ((tp l k).set (2 * k) (hi (l.getD k 0))).set (2 * k + 1) (lo (l.getD k 0)) = tp l (k + 1) := by
  have hl : (tx (l.take k)).length = 2 * k := by rw [tx_len, List.length_take, h]; omega
  have e1 : List.replicate (64 - 2 * k) (0 : Int) = 0 :: 0 :: List.replicate (64 - 2 * (k + 1)) 0 := by
    rw [show 64 - 2 * k = (64 - 2 * (k + 1)) + 1 + 1 by omega]; rfl
  have hkl : k < l.length := by omega
  unfold tp
  rw [e1, List.set_append_right _ _ (by omega), hl, Nat.sub_self, List.set_cons_zero, List.set_append_right _ _ (by omega), hl, show 2 * k + 1 - 2 * k = 0 + 1 by omega, List.set_cons_succ, List.set_cons_zero,
    List.take_succ_eq_append_getElem hkl, tx_append, List.append_assoc]
  rw [List.getD_eq_getElem?_getD, List.getElem?_eq_getElem hkl]
  rfl
theorem tp_all (l : List Int) (h : l.length = 32) (z : Nat) (hz : z = 32) : tp l z = tx l := by
  subst hz
  unfold tp
  rw [List.take_of_length_le (by omega)]
  simp
theorem and15 : ∀ n : Nat, n < 256 → bits .and .u8 (n : Int) 15 = ((n % 16 : Nat) : Int) := by decide +kernel
theorem idx8 (w : World) : ∀ d : Nat, d < 16 → (Instr.index 9 (.string ⟨#[48, 49, 50, 51, 52, 53, 54, 55, 56, 57, 97, 98, 99, 100, 101, 102]⟩) (.int .u8 (d : Int))).run Tryd.prog w = .ok (.int .u8 (hexd d)) w
  | 0, _ | 1, _ | 2, _ | 3, _ | 4, _ | 5, _ | 6, _ | 7, _ | 8, _ | 9, _ | 10, _ | 11, _ | 12, _ | 13, _ | 14, _ | 15, _ => by kernel_rfl
  | n + 16, h => absurd h (by omega)
theorem idxH' (a0 a1 a2 a3 a4 a5 a6 a7 a8 a9 a10 a11 a12 a13 a14 a15 a16 a17 a18 a19 a20 a21 a22 a23 a24 a25 a26 a27 a28 a29 a30 a31 : Int) (W : World) : ∀ k : Nat, k < 32 → (Instr.index 26 (.agg (b8 [a0, a1, a2, a3, a4, a5, a6, a7, a8, a9, a10, a11, a12, a13, a14, a15, a16, a17, a18, a19, a20, a21, a22, a23, a24, a25, a26, a27, a28, a29, a30, a31]).toArray) (.int .i64 (k : Int))).run Tryd.prog W = .ok (.int .u8 ([a0, a1, a2, a3, a4, a5, a6, a7, a8, a9, a10, a11, a12, a13, a14, a15, a16, a17, a18, a19, a20, a21, a22, a23, a24, a25, a26, a27, a28, a29, a30, a31].getD k 0)) W
  | 0, _ | 1, _ | 2, _ | 3, _ | 4, _ | 5, _ | 6, _ | 7, _ | 8, _ | 9, _ | 10, _ | 11, _ | 12, _ | 13, _ | 14, _ | 15, _ | 16, _ | 17, _ | 18, _ | 19, _ | 20, _ | 21, _ | 22, _ | 23, _ | 24, _ | 25, _ | 26, _ | 27, _ | 28, _ | 29, _ | 30, _ | 31, _ => by kernel_rfl
  | k + 32, h => absurd h (by omega)
theorem idxH (l : List Int) (h : l.length = 32) (W : World) (k : Nat) (hk : k < 32) : (Instr.index 26 (.agg (b8 l).toArray) (.int .i64 (k : Int))).run Tryd.prog W = .ok (.int .u8 (l.getD k 0)) W := by
  match l, h with
  | [a0, a1, a2, a3, a4, a5, a6, a7, a8, a9, a10, a11, a12, a13, a14, a15, a16, a17, a18, a19, a20, a21, a22, a23, a24, a25, a26, a27, a28, a29, a30, a31], _ => exact idxH' a0 a1 a2 a3 a4 a5 a6 a7 a8 a9 a10 a11 a12 a13 a14 a15 a16 a17 a18 a19 a20 a21 a22 a23 a24 a25 a26 a27 a28 a29 a30 a31 W k hk

def MidT (w : World) (l : List Int) (i : Value) (U : World) : Prop :=
  ∃ k : Nat, k ≤ 32 ∧ i = .int .i64 (k : Int) ∧ At U (w.heap.size + 1) 42 (b8 (tp l k)) ∧ Below w.heap.size w U
set_option maxRecDepth 10000 in
set_option maxHeartbeats 2000000 in
theorem text_any (w : World) (l : List Int) (hl : l.length = 32) (hr : rng l) :
    Calls Tryd.prog 18 #[.agg (b8 l).toArray] w fun e w' => e = .returned (.string (hashText l)) ∧ Below w.heap.size w w' := by
  obtain ⟨W0, eW0⟩ : ∃ X, X = (w.alloc (.cells (b8 l).toArray 26)).alloc (.cells #[Value.int .u8 0, Value.int .u8 0, Value.int .u8 0, Value.int .u8 0, Value.int .u8 0, Value.int .u8 0, Value.int .u8 0, Value.int .u8 0, Value.int .u8 0, Value.int .u8 0, Value.int .u8 0, Value.int .u8 0, Value.int .u8 0, Value.int .u8 0, Value.int .u8 0, Value.int .u8 0, Value.int .u8 0, Value.int .u8 0, Value.int .u8 0, Value.int .u8 0, Value.int .u8 0, Value.int .u8 0, Value.int .u8 0, Value.int .u8 0, Value.int .u8 0, Value.int .u8 0, Value.int .u8 0, Value.int .u8 0, Value.int .u8 0, Value.int .u8 0, Value.int .u8 0, Value.int .u8 0, Value.int .u8 0, Value.int .u8 0, Value.int .u8 0, Value.int .u8 0, Value.int .u8 0, Value.int .u8 0, Value.int .u8 0, Value.int .u8 0, Value.int .u8 0, Value.int .u8 0, Value.int .u8 0, Value.int .u8 0, Value.int .u8 0, Value.int .u8 0, Value.int .u8 0, Value.int .u8 0, Value.int .u8 0, Value.int .u8 0, Value.int .u8 0, Value.int .u8 0, Value.int .u8 0, Value.int .u8 0, Value.int .u8 0, Value.int .u8 0, Value.int .u8 0, Value.int .u8 0, Value.int .u8 0, Value.int .u8 0, Value.int .u8 0, Value.int .u8 0, Value.int .u8 0, Value.int .u8 0] 42) := ⟨_, rfl⟩
  have hA : At W0 w.heap.size 26 (b8 l) := by rw [eW0]; exact At.alloc (At.new w _ _) _
  have hz : At W0 (w.heap.size + 1) 42 (b8 (tp l 0)) := by
    rw [eW0]
    have := At.new (w.alloc (.cells (b8 l).toArray 26)) 42 (b8 (tp l 0))
    rw [World.size_alloc] at this
    exact this
  have hB : Below w.heap.size w W0 := by rw [eW0]; exact (by repeat (first | assumption | exact Below.refl _ _ | refine Below.setCell ?_ (by first | omega | (simp; done) | (simp; omega)) _ | refine below_drewN ?_ _ | refine Below.drew ?_ | refine Below.alloc ?_ (by first | omega | (simp; done) | (simp; omega)) _ | refine Below.trans ?_ (Below.mono (by assumption) (by first | omega | (simp; done) | (simp; omega)))))
  have HST := hide (show MidT w l (.int .i64 0) W0 from ⟨0, by omega, rfl, hz, hB⟩)
  have HA := hide hA
  have HL := hide hl
  have HR := hide hr
  have HL2 := hide (show (b8 l).length = 32 by rw [b8_len, hl])
  have E0 := hide eW0
  clear hA hz hB hl hr eW0
  go_enter Tryd.func18, Tryd.ntmps18
  go_upto_region 2 with (fail)
  rw [← E0.out]
  refine wp_region_lit ?_
  refine stepLoad (by rfl) _ _ (by rfl) _ (by rfl) HA.out (.array 32 5) 32 Tryd.underlying26 rfl (by kernel_rfl) HL2.out ?_
  go_wp2_with fail
  go_loopw [7] (fun i wr => MidT w l i wr) (fun i _ => 32 - (intOf i).toNat)
  case atStart => exact HST.out
  case round =>
    obtain ⟨k, hk, rfl, hm, hB⟩ := hrel
    by_cases hlt : k < 32
    · obtain ⟨n, hn, hx⟩ : ∃ n : Nat, n < 256 ∧ l.getD k 0 = (n : Int) := by
        have := rng_get HR.out k
        exact ⟨(l.getD k 0).toNat, by omega, by omega⟩
      have hix := fun W => idxH l HL.out W k hlt
      rw [hx] at hix
      obtain ⟨d1, hd1⟩ : ∃ d1, n / 16 = d1 := ⟨_, rfl⟩
      obtain ⟨d2, hd2⟩ : ∃ d2, n % 16 = d2 := ⟨_, rfl⟩
      have e1 : (n : Int) / 16 = (d1 : Int) := by omega
      have e2 : bits .and .u8 (n : Int) 15 = (d2 : Int) := by rw [and15 n hn, hd2]
      have i1 := fun W => idx8 W d1 (by omega)
      have i2 := fun W => idx8 W d2 (by omega)
      obtain ⟨j, hj⟩ : ∃ j : Nat, 2 * k = j := ⟨_, rfl⟩
      have hj2 : (2 : Int) * (k : Int) = (j : Int) := by omega
      have hlen := tp_len l HL.out k hk
      have c1 := hm.cell j
      have c2 := hm.cell (j + 1)
      rw [b8_get _ j (by omega)] at c1
      rw [b8_get _ (j + 1) (by omega)] at c2
      have f1 := hm.frozen j
      have f2 := hm.frozen (j + 1)
      have b1 : (j : Int) < 64 := by omega
      have b2 : (j : Int) + 1 < 64 := by omega
      have b3 : (k : Int) < 32 := by omega
      have hst := tp_step l HL.out k hlt
      rw [hx, hj, show hi (n : Int) = hexd d1 by unfold hi; rw [Int.toNat_natCast, hd1], show lo (n : Int) = hexd d2 by unfold lo; rw [Int.toNat_natCast, hd2]] at hst
      have HM := hide hm
      have HB := hide hB
      have HS := hide hst
      have HJ := hide hj
      clear hm hB hst hj hx hd1 hd2 hlen
      go_wp2_with fail
      go_region
      go_wp2_with fail
      go_roundw
      case rel =>
        refine ⟨k + 1, by omega, by go_num, ?_, (Below.setCell (Below.setCell HB.out (by simp) _) (by simp) _).drew⟩
        have := (HM.out.setCell j (.int .u8 (hexd d1))).setCell (j + 1) (.int .u8 (hexd d2))
        rw [b8_set, b8_set, HS.out] at this
        exact this
      case measure => simp [intOf]; omega
    · obtain rfl : k = 32 := by omega
      rw [tp_all l HL.out 32 rfl] at hm
      have hsl : ∀ Y : World, (Instr.sliceAt 42 (.pointer (some ⟨w.heap.size + 1, 0, none⟩)) none none none).run Tryd.prog Y = .ok (.slice (some ⟨w.heap.size + 1, 0, none⟩) 64 64) Y := by
        intro Y
        kernel_rfl
      have htl : (tx l).length = 64 := by rw [tx_len, HL.out]
      have hcv : (convert 22 9 (.slice (some ⟨w.heap.size + 1, 0, none⟩) 64 64)).run Tryd.prog wr = .ok (.string (hashText l)) wr := by
        refine run_convert_bytes_arg wr 22 5 Tryd.underlying22 Tryd.underlying5 (w.heap.size + 1) 0 64 64 (tx l) htl ?_ 9 Tryd.underlying9
        intro i hi
        rw [Nat.zero_add, hm.cell, b8_get _ i (by omega)]
      have HB := hide hB
      clear hm hB htl
      go_wp2
      go_ret
      exact ⟨rfl, HB.out⟩
end BlkL
end Go.Proofs.YtfmegeibnjmfpaaDoor
