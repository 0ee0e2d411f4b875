/-
  The document's way over the blocks, and the program's: pure.
-/
import Derived.Test.YtfmegeibnjmfpaaDoorBlkM
namespace Go.Proofs.YtfmegeibnjmfpaaDoor
namespace BlkSp
open BlkM

/-- The bytes, zeros behind them up to whole blocks, one at least. -/
def allL (l : List Int) : List Int := l ++ List.replicate (64 * (before l.length + 1) - l.length) 0
theorem before_le (n : Nat) : n ≤ 64 * (before n + 1) := by unfold before; omega
theorem allL_len (l : List Int) : (allL l).length = 64 * (before l.length + 1) := by
  have := before_le l.length
  simp only [allL, List.length_append, List.length_replicate]
  omega
/-- The document's words behind k blocks. -/
def dh (l : List Int) : Nat → List Int
  | 0 => h0
  | k + 1 => comp (dh l k) (((allL l).drop (64 * k)).take 64) ((min l.length (64 * k + 64) : Nat) : Int) (if 64 * k + 64 = (allL l).length then 4294967295 else 0)
theorem all_mid (l : List Int) (k : Nat) (h : k < before l.length) : ((allL l).drop (64 * k)).take 64 = (l.drop (64 * k)).take 64 := by
  have : 64 * k + 64 ≤ l.length := by unfold before at h; omega
  unfold allL
  rw [List.drop_append_of_le_length (by omega), List.take_append_of_le_length (by rw [List.length_drop]; omega)]
theorem all_last (l : List Int) : ((allL l).drop (64 * before l.length)).take 64 = pad 64 (l.drop (64 * before l.length)) := by
  have h1 : 64 * before l.length ≤ l.length := by unfold before; omega
  have h2 := before_le l.length
  unfold allL pad
  rw [List.drop_append_of_le_length h1, List.length_drop, show 64 * (before l.length + 1) - l.length = 64 - (l.length - 64 * before l.length) by omega]
  exact List.take_of_length_le (by rw [List.length_append, List.length_drop, List.length_replicate]; omega)
theorem dh_hs (l : List Int) : ∀ k, k ≤ before l.length → dh l k = hs l k
  | 0, _ => rfl
  | k + 1, h => by
    have hn : 64 * k + 64 ≤ l.length := by unfold before at h; omega
    rw [dh, hs, dh_hs l k (by omega), all_mid l k (by omega), if_neg (by rw [allL_len]; omega), Nat.min_eq_right hn, show 64 * k + 64 = 64 * (k + 1) by omega]
theorem dh_fin (l : List Int) : dh l (before l.length + 1) = fin l := by
  have h2 := before_le l.length
  rw [dh, dh_hs l _ (Nat.le_refl _), all_last, if_pos (by rw [allL_len]; omega), Nat.min_eq_left (by omega)]
  rfl
/-- What the document's last loop makes of v, as comp says it. -/
theorem hp_doc (h v w : Int) : xo (xo h v) w = xo h (xo v w) := xo_assoc h v w
theorem xo_zero (x : Int) (h0 : 0 ≤ x) (h1 : x < 4294967296) : xo x 0 = x := by
  rw [xo_bv]
  simp
  omega
theorem xo_ones (x : Int) : xo x 4294967295 = ((~~~ (BitVec.ofInt 32 x)).toNat : Int) := by
  rw [xo_bv]
  congr 2
  rw [show BitVec.ofInt 32 4294967295 = BitVec.allOnes 32 from rfl, BitVec.xor_allOnes]
end BlkSp
end Go.Proofs.YtfmegeibnjmfpaaDoor
