/-
  A digit's number, and the words of a block, of package blake.
-/
import Derived.Test.YtfmegeibnjmfpaaDoorBlkA
namespace Go.Proofs.YtfmegeibnjmfpaaDoor
namespace BlkE
open Go.RowKit
open BlkM BlkA
/-- The number of a digit. -/
def valI (r : Int) : Int := if 48 ≤ r ∧ r ≤ 57 then r - 48 else if 97 ≤ r ∧ r ≤ 102 then r - 87 else -1
set_option maxHeartbeats 1000000 in
theorem value_any (r : Int) (w : World) (h0 : 0 ≤ r) (h1 : r ≤ 1114111) : Calls Tryd.prog 46 #[.int .i32 r] w fun e w' => e = .returned (.int .i64 (valI r)) ∧ w = w' := by
  by_cases a : 48 ≤ r ∧ r ≤ 57
  · have e : valI r = r - 48 := if_pos a
    rw [e]
    obtain ⟨a1, a2⟩ := a
    clear e
    go_enter Tryd.func46, Tryd.ntmps46
    go_wp2
    go_ret
    exact ⟨rfl, rfl⟩
  · by_cases b : 97 ≤ r ∧ r ≤ 102
    · have e : valI r = r - 97 + 10 := by unfold valI; rw [if_neg a, if_pos b]; omega
      rw [e]
      obtain ⟨b1, b2⟩ := b
      have a1 : 48 ≤ r := by omega
      have a2 : ¬ r ≤ 57 := by omega
      clear a e
      go_enter Tryd.func46, Tryd.ntmps46
      go_wp2
      go_ret
      exact ⟨rfl, rfl⟩
    · have e : valI r = -1 := by unfold valI; rw [if_neg a, if_neg b]
      rw [e]
      have A := hide a
      have B := hide b
      clear a b e
      by_cases a1 : 48 ≤ r
      · have a2 : ¬ r ≤ 57 := fun h => A.out ⟨a1, h⟩
        by_cases b1 : 97 ≤ r
        · have b2 : ¬ r ≤ 102 := fun h => B.out ⟨b1, h⟩
          go_enter Tryd.func46, Tryd.ntmps46
          go_wp2
          go_ret
          exact ⟨rfl, rfl⟩
        · go_enter Tryd.func46, Tryd.ntmps46
          go_wp2
          go_ret
          exact ⟨rfl, rfl⟩
      · have b1 : ¬ 97 ≤ r := by omega
        go_enter Tryd.func46, Tryd.ntmps46
        go_wp2
        go_ret
        exact ⟨rfl, rfl⟩

/-! ### The words of a block -/
def term (b : List Int) (i n : Nat) : Int := IntKind.u32.wrap (b.getD (4 * i + n) 0 * 2 ^ (8 * n))
def acc (b : List Int) (i : Nat) : Nat → Int
  | 0 => 0
  | n + 1 => oo (acc b i n) (term b i n)
/-- The words, when some bytes have come. -/
def wpart (b : List Int) : Nat → List Int
  | 0 => List.replicate 16 0
  | k + 1 => (wpart b k).set (k / 4) (oo ((wpart b k).getD (k / 4) 0) (term b (k / 4) (k % 4)))
theorem wpart_len (b : List Int) : ∀ k, (wpart b k).length = 16
  | 0 => rfl
  | k + 1 => by rw [wpart, List.length_set, wpart_len b k]
theorem wpart_get (b : List Int) : ∀ k, k ≤ 64 → ∀ i, i < 16 → (wpart b k).getD i 0 = acc b i (min 4 (k - 4 * i))
  | 0, _, i, hi => by
    rw [show min 4 (0 - 4 * i) = 0 by omega]
    simp only [wpart, acc, List.getD_eq_getElem?_getD, List.getElem?_replicate]
    split <;> rfl
  | k + 1, hk, i, hi => by
    have ih := wpart_get b k (by omega)
    rw [wpart]
    by_cases e : k / 4 = i
    · subst e
      have hl : k / 4 < (wpart b k).length := by rw [wpart_len]; omega
      rw [show ((wpart b k).set (k / 4) (oo ((wpart b k).getD (k / 4) 0) (term b (k / 4) (k % 4)))).getD (k / 4) 0 = oo ((wpart b k).getD (k / 4) 0) (term b (k / 4) (k % 4)) by simp [List.getD, hl]]
      rw [ih (k / 4) (by omega), show min 4 (k - 4 * (k / 4)) = k % 4 by omega, show min 4 (k + 1 - 4 * (k / 4)) = k % 4 + 1 by omega]
      rfl
    · rw [show ((wpart b k).set (k / 4) (oo ((wpart b k).getD (k / 4) 0) (term b (k / 4) (k % 4)))).getD i 0 = (wpart b k).getD i 0 by simp [List.getD, e]]
      rw [ih i hi]
      congr 1
      omega
theorem acc4 (b : List Int) (i : Nat) (h0 : 0 ≤ b.getD (4 * i) 0) (h1 : b.getD (4 * i) 0 < 256) : acc b i 4 = wordOf b i := by
  have e0 : term b i 0 = b.getD (4 * i) 0 := by
    unfold term
    rw [show 4 * i + 0 = 4 * i from rfl, show 8 * 0 = 0 from rfl, Int.pow_zero, Int.mul_one, IntKind.wrap_u32]
    omega
  simp only [acc]
  rw [e0, zero_oo _ h0 (by omega)]
  unfold wordOf term
  simp only [Nat.mul_one, show 8 * 2 = 16 from rfl, show 8 * 3 = 24 from rfl]
theorem wpart_all (b : List Int) (hr : ∀ i, 0 ≤ b.getD i 0 ∧ b.getD i 0 < 256) (z : Nat) (hz : z = 64) : wpart b z = wordsL b := by
  apply List.ext_getElem
  · rw [wpart_len, wordsL_len]
  · intro i h1 h2
    have h3 := wpart_get b z (by omega) i (by rw [wpart_len] at h1; exact h1)
    rw [show min 4 (z - 4 * i) = 4 by rw [wpart_len] at h1; omega, acc4 b i (hr _).1 (hr _).2] at h3
    rw [List.getD_eq_getElem?_getD, List.getElem?_eq_getElem h1] at h3
    have h4 : (wordsL b)[i] = wordOf b i := by simp [wordsL]
    rw [h4, ← h3]
    rfl

/-- What stands between two rounds of words' loop. -/
def Mid (w : World) (b : List Int) (i : Value) (U : World) : Prop :=
  ∃ k : Nat, k ≤ 64 ∧ i = .int .i64 (k : Int) ∧ At U (w.heap.size + 1) 102 (w32 (wpart b k)) ∧ At U w.heap.size 102 (w32 (List.replicate 16 0)) ∧ Below w.heap.size w U
set_option maxRecDepth 10000 in
set_option maxHeartbeats 1000000 in
theorem words_any (w : World) (D off : Nat) (b : List Int) (hb : ∀ i, i < 64 → w.cell? ⟨D, off + i, none⟩ = some (.int .u8 (b.getD i 0))) (hD : D < w.heap.size) (hr : ∀ i, 0 ≤ b.getD i 0 ∧ b.getD i 0 < 256) :
    Calls Tryd.prog 89 #[.pointer (some ⟨D, off, none⟩)] w fun e w' => e = .returned (.agg (w32 (wordsL b)).toArray) ∧ Below w.heap.size w w' := by
  have HB := hide hb
  have HR := hide hr
  have HD := hide hD
  clear hb hr hD
  have hst : Mid w b (.int .i64 0) ((w.alloc (.cells #[Value.int .u32 0, Value.int .u32 0, Value.int .u32 0, Value.int .u32 0, Value.int .u32 0, Value.int .u32 0, Value.int .u32 0, Value.int .u32 0, Value.int .u32 0, Value.int .u32 0, Value.int .u32 0, Value.int .u32 0, Value.int .u32 0, Value.int .u32 0, Value.int .u32 0, Value.int .u32 0] 102)).alloc (.cells #[Value.int .u32 0, Value.int .u32 0, Value.int .u32 0, Value.int .u32 0, Value.int .u32 0, Value.int .u32 0, Value.int .u32 0, Value.int .u32 0, Value.int .u32 0, Value.int .u32 0, Value.int .u32 0, Value.int .u32 0, Value.int .u32 0, Value.int .u32 0, Value.int .u32 0, Value.int .u32 0] 102)) := by
    refine ⟨0, by omega, rfl, ?_, At.alloc (At.new w 102 (w32 (List.replicate 16 0))) _, (by repeat (first | assumption | exact Below.refl _ _ | refine Below.setCell ?_ (by first | omega | (simp; done) | (simp; omega)) _ | refine below_drewN ?_ _ | refine Below.drew ?_ | refine Below.alloc ?_ (by first | omega | (simp; done) | (simp; omega)) _ | refine Below.trans ?_ (Below.mono (by assumption) (by first | omega | (simp; done) | (simp; omega)))))⟩
    have := At.new (w.alloc (.cells #[Value.int .u32 0, Value.int .u32 0, Value.int .u32 0, Value.int .u32 0, Value.int .u32 0, Value.int .u32 0, Value.int .u32 0, Value.int .u32 0, Value.int .u32 0, Value.int .u32 0, Value.int .u32 0, Value.int .u32 0, Value.int .u32 0, Value.int .u32 0, Value.int .u32 0, Value.int .u32 0] 102)) 102 (w32 (List.replicate 16 0))
    rw [World.size_alloc] at this
    exact this
  have HST := hide hst
  clear hst
  go_enter Tryd.func89, Tryd.ntmps89
  go_wp2_with fail
  go_loopw [7] (fun i wr => Mid w b i wr) (fun i _ => 64 - (intOf i).toNat)
  case atStart => exact HST.out
  case round =>
    obtain ⟨k, hk, rfl, hm, hz, hB⟩ := hrel
    by_cases hlt : k < 64
    · have c0 : wr.cell? ⟨D, off + k, none⟩ = some (.int .u8 (b.getD k 0)) := (hB.cell (p := ⟨D, off + k, none⟩) HD.out).trans (HB.out k hlt)
      obtain ⟨x, hx⟩ : ∃ x, b.getD k 0 = x := ⟨_, rfl⟩
      rw [hx] at c0
      have hlt2 : (k : Int) < 64 := by omega
      have HM := hide hm
      have HZ := hide hz
      have HBB := hide hB
      have HX := hide hx
      clear hm hz hB hx
      go_wp2_with fail
      go_quiet (fail)
      obtain ⟨i, n, hi, hn, hkn⟩ : ∃ i n : Nat, i < 16 ∧ n < 4 ∧ k = 4 * i + n := ⟨k / 4, k % 4, by omega, by omega, by omega⟩
      have q1 : (k : Int) / 4 = (i : Int) := by omega
      have q3 : (k : Int).tdiv 4 = (i : Int) := by rw [Int.tdiv_eq_ediv_of_nonneg (by omega)]; exact q1
      obtain ⟨y, hy⟩ : ∃ y, (wpart b k).getD i 0 = y := ⟨_, rfl⟩
      obtain ⟨W1, hW1⟩ : ∃ W1, W1 = wr.drewN nq := ⟨_, rfl⟩
      have hM1 : At W1 (w.heap.size + 1) 102 (w32 (wpart b k)) := by rw [hW1]; exact HM.out
      have hZ1 : At W1 w.heap.size 102 (w32 (List.replicate 16 0)) := by rw [hW1]; exact HZ.out
      have hB1 : Below w.heap.size w W1 := by rw [hW1]; exact below_drewN HBB.out _
      have cy : W1.cell? ⟨w.heap.size + 1, i, none⟩ = some (.int .u32 y) := by rw [hM1.cell, w32_get _ i (by rw [wpart_len]; exact hi), hy]
      have fy := hM1.frozen i
      have hi2 : (i : Int) < 16 := by omega
      rw [← hW1]
      have HN := hide hkn
      have HI := hide hi
      have HY := hide hy
      have HM1 := hide hM1
      have HZ1 := hide hZ1
      have HB1 := hide hB1
      have NQ : (k : Int) % 4 = (n : Int) := by omega
      have NQ2 : (k : Int).tmod 4 = (n : Int) := by rw [Int.tmod_eq_emod_of_nonneg (by omega)]; exact NQ
      clear hkn hi hy hM1 hZ1 hB1 HM HZ HBB hW1
      go_wp2_with fail
      match n, hn with
      | 0, _ =>
        obtain ⟨tm, htm⟩ : ∃ tm, (x) % 4294967296 = tm := ⟨_, rfl⟩
        have HTM := hide htm
        have hx0 : x % 4294967296 = tm := htm
        go_region
        go_wp2_with fail
        go_roundw
        case rel =>
          refine ⟨k + 1, by omega, by go_num, ?_, HZ1.out.setCell_other (by omega) _ _, (HB1.out.setCell (p := ⟨w.heap.size + 1, i, none⟩) (by simp) _).drew⟩
          have e1 : k / 4 = i := by have := HN.out; omega
          have e2 : k % 4 = 0 := by have := HN.out; omega
          have e3 : term b i 0 = tm := by
            unfold term
            rw [show 4 * i + 0 = k from HN.out.symm, HX.out, IntKind.wrap_u32, ← HTM.out]
            rw [show 8 * 0 = 0 from rfl, Int.pow_zero, Int.mul_one]
          rw [wpart, e1, e2, HY.out, e3, ← w32_set]
          exact (HM1.out.setCell i _)
        case measure => simp [intOf]; omega
      | 1, _ =>
        have hxx : x % 4294967296 = x := by have := HR.out k; rw [HX.out] at this; omega
        obtain ⟨tm, htm⟩ : ∃ tm, (x * 256) % 4294967296 = tm := ⟨_, rfl⟩
        have HTM := hide htm
        
        go_region
        go_wp2_with fail
        go_roundw
        case rel =>
          refine ⟨k + 1, by omega, by go_num, ?_, HZ1.out.setCell_other (by omega) _ _, (HB1.out.setCell (p := ⟨w.heap.size + 1, i, none⟩) (by simp) _).drew⟩
          have e1 : k / 4 = i := by have := HN.out; omega
          have e2 : k % 4 = 1 := by have := HN.out; omega
          have e3 : term b i 1 = tm := by
            unfold term
            rw [show 4 * i + 1 = k from HN.out.symm, HX.out, IntKind.wrap_u32, ← HTM.out]
            rfl
          rw [wpart, e1, e2, HY.out, e3, ← w32_set]
          exact (HM1.out.setCell i _)
        case measure => simp [intOf]; omega
      | 2, _ =>
        have hxx : x % 4294967296 = x := by have := HR.out k; rw [HX.out] at this; omega
        obtain ⟨tm, htm⟩ : ∃ tm, (x * 65536) % 4294967296 = tm := ⟨_, rfl⟩
        have HTM := hide htm
        
        go_region
        go_wp2_with fail
        go_roundw
        case rel =>
          refine ⟨k + 1, by omega, by go_num, ?_, HZ1.out.setCell_other (by omega) _ _, (HB1.out.setCell (p := ⟨w.heap.size + 1, i, none⟩) (by simp) _).drew⟩
          have e1 : k / 4 = i := by have := HN.out; omega
          have e2 : k % 4 = 2 := by have := HN.out; omega
          have e3 : term b i 2 = tm := by
            unfold term
            rw [show 4 * i + 2 = k from HN.out.symm, HX.out, IntKind.wrap_u32, ← HTM.out]
            rfl
          rw [wpart, e1, e2, HY.out, e3, ← w32_set]
          exact (HM1.out.setCell i _)
        case measure => simp [intOf]; omega
      | 3, _ =>
        have hxx : x % 4294967296 = x := by have := HR.out k; rw [HX.out] at this; omega
        obtain ⟨tm, htm⟩ : ∃ tm, (x * 16777216) % 4294967296 = tm := ⟨_, rfl⟩
        have HTM := hide htm
        
        go_region
        go_wp2_with fail
        go_roundw
        case rel =>
          refine ⟨k + 1, by omega, by go_num, ?_, HZ1.out.setCell_other (by omega) _ _, (HB1.out.setCell (p := ⟨w.heap.size + 1, i, none⟩) (by simp) _).drew⟩
          have e1 : k / 4 = i := by have := HN.out; omega
          have e2 : k % 4 = 3 := by have := HN.out; omega
          have e3 : term b i 3 = tm := by
            unfold term
            rw [show 4 * i + 3 = k from HN.out.symm, HX.out, IntKind.wrap_u32, ← HTM.out]
            rfl
          rw [wpart, e1, e2, HY.out, e3, ← w32_set]
          exact (HM1.out.setCell i _)
        case measure => simp [intOf]; omega
    · obtain rfl : k = 64 := by omega
      have e1 := wpart_all b HR.out 64 rfl
      rw [e1] at hm
      have HM := hide hm
      have HZ := hide hz
      have HB2 := hide (Below.setRowOwn hB (Nat.le_refl _) (w32 (wordsL b)).toArray)
      have HZ2 := hide (hz.put (w32 (wordsL b)))
      have HL : (w32 (wordsL b)).length = 16 := by rw [w32_len, wordsL_len]
      have HLEN := hide HL
      clear hm hz hB e1 HL
      go_upto_region 7 with (fail)
      refine wp_region_lit ?_
      refine stepLoad (by rfl) _ _ (by rfl) _ (by rfl) HM.out (.array 16 40) 16 Tryd.underlying102 rfl (by kernel_rfl) HLEN.out ?_
      refine stepStore (by rfl) _ _ _ (by rfl) _ _ (by rfl) (by rfl) HZ.out 16 (by kernel_rfl) (by rw [w32_len]; rfl) HLEN.out (oneCells_w32 _) ?_
      go_wp2_with fail
      exact bodyPost_ret (retRow HZ2.out Tryd.results89 _ (by rfl) (.array 16 40) 16 Tryd.underlying102 rfl (by kernel_rfl) HLEN.out) rfl ⟨rfl, HB2.out⟩
end BlkE
end Go.Proofs.YtfmegeibnjmfpaaDoor
