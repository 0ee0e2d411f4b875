/-
  BlkD, BlkE, BlkF, in one text.
-/
import Derived.Test.YtpambhlhkmkagaaGreatDoorBlkC
import Derived.Test.YtpambhlhkmkagaaGreatDoorBlkA
import Derived.Laws.RangeAny
namespace Go.Proofs.YtpambhlhkmkagaaGreatDoor
namespace BlkD
open Go.RowKit
open BlkM BlkA BlkC
theorem rd_w {w w1 : World} {V S : Nat} {T : TypeId} {cs : List Value} {s : List Int} (h : Chg w V cs w1) (k : At w S T (w32 s)) (ne : S ≠ V) (i : Nat) (hi : i < s.length) : w1.cell? ⟨S, i, none⟩ = some (.int .u32 (s.getD i 0)) := by
  rw [(h.other k ne).cell, w32_get s i hi]
set_option maxRecDepth 10000 in
set_option maxHeartbeats 1000000 in
theorem round_any (w : World) (V S : Nat) (v s : List Int) (T T2 : TypeId) (hv : At w V T (w32 v)) (hs : At w S T2 (w32 s)) (hne : S ≠ V) (lv : v.length = 16) (ls : s.length = 16) :
    Calls Tryz.prog 100 #[.pointer (some ⟨V, 0, none⟩), .pointer (some ⟨S, 0, none⟩)] w fun e w' => e = .returned (.tuple #[]) ∧ Chg w V (w32 (roundL v s)) w' := by
  have HC := hide (show Chg w V (w32 (BlkM.part v s 0)) w from Chg.self hv (Below.refl _ _))
  have HV := hide hv
  have HS := hide hs
  have LV := hide (fun n => (BlkM.part_len v s n).trans lv)
  have LS := hide ls
  have d0 : w.cell? ⟨S, 0, none⟩ = some (.int .u32 (s.getD 0 0)) := by rw [hs.cell, w32_get s 0 (by omega)]
  have d1 : w.cell? ⟨S, 1, none⟩ = some (.int .u32 (s.getD 1 0)) := by rw [hs.cell, w32_get s 1 (by omega)]
  clear hv hs lv ls
  go_enter Tryz.func100, Tryz.ntmps100
  go_wp2_with fail
  go_still_tail 20, (by kernel_rfl)
  go_wp2_with ((go_at_call 101; refine (mix_any _ V 0 4 8 12 (BlkM.part v s 0) _ _ T (by exact HC.out.at HV.out) (by rw [LV.out]; omega) (by rw [LV.out]; omega) (by rw [LV.out]; omega) (by rw [LV.out]; omega) (by omega) (by omega) (by omega) (by omega) (by omega) (by omega)).mono ?_; rintro e w1 ⟨rfl, h1⟩))
  have HC1 := hide (show Chg w V (w32 (BlkM.part v s 1)) w1 from Chg.trans HC.out.drew (by exact h1))
  clear HC d0 d1 h1
  have HC := hide HC1.out
  clear HC1
  have d0 := rd_w HC.out HS.out hne 2 (by rw [LS.out]; omega)
  have d1 := rd_w HC.out HS.out hne 3 (by rw [LS.out]; omega)
  go_still_tail 20, (by kernel_rfl)
  go_wp2_with ((go_at_call 101; refine (mix_any _ V 1 5 9 13 (BlkM.part v s 1) _ _ T (by exact HC.out.at HV.out) (by rw [LV.out]; omega) (by rw [LV.out]; omega) (by rw [LV.out]; omega) (by rw [LV.out]; omega) (by omega) (by omega) (by omega) (by omega) (by omega) (by omega)).mono ?_; rintro e w1 ⟨rfl, h1⟩))
  have HC2 := hide (show Chg w V (w32 (BlkM.part v s 2)) w1 from Chg.trans HC.out.drew (by exact h1))
  clear HC d0 d1 h1
  have HC := hide HC2.out
  clear HC2
  have d0 := rd_w HC.out HS.out hne 4 (by rw [LS.out]; omega)
  have d1 := rd_w HC.out HS.out hne 5 (by rw [LS.out]; omega)
  go_still_tail 20, (by kernel_rfl)
  go_wp2_with ((go_at_call 101; refine (mix_any _ V 2 6 10 14 (BlkM.part v s 2) _ _ T (by exact HC.out.at HV.out) (by rw [LV.out]; omega) (by rw [LV.out]; omega) (by rw [LV.out]; omega) (by rw [LV.out]; omega) (by omega) (by omega) (by omega) (by omega) (by omega) (by omega)).mono ?_; rintro e w1 ⟨rfl, h1⟩))
  have HC3 := hide (show Chg w V (w32 (BlkM.part v s 3)) w1 from Chg.trans HC.out.drew (by exact h1))
  clear HC d0 d1 h1
  have HC := hide HC3.out
  clear HC3
  have d0 := rd_w HC.out HS.out hne 6 (by rw [LS.out]; omega)
  have d1 := rd_w HC.out HS.out hne 7 (by rw [LS.out]; omega)
  go_still_tail 20, (by kernel_rfl)
  go_wp2_with ((go_at_call 101; refine (mix_any _ V 3 7 11 15 (BlkM.part v s 3) _ _ T (by exact HC.out.at HV.out) (by rw [LV.out]; omega) (by rw [LV.out]; omega) (by rw [LV.out]; omega) (by rw [LV.out]; omega) (by omega) (by omega) (by omega) (by omega) (by omega) (by omega)).mono ?_; rintro e w1 ⟨rfl, h1⟩))
  have HC4 := hide (show Chg w V (w32 (BlkM.part v s 4)) w1 from Chg.trans HC.out.drew (by exact h1))
  clear HC d0 d1 h1
  have HC := hide HC4.out
  clear HC4
  have d0 := rd_w HC.out HS.out hne 8 (by rw [LS.out]; omega)
  have d1 := rd_w HC.out HS.out hne 9 (by rw [LS.out]; omega)
  go_still_tail 20, (by kernel_rfl)
  go_wp2_with ((go_at_call 101; refine (mix_any _ V 0 5 10 15 (BlkM.part v s 4) _ _ T (by exact HC.out.at HV.out) (by rw [LV.out]; omega) (by rw [LV.out]; omega) (by rw [LV.out]; omega) (by rw [LV.out]; omega) (by omega) (by omega) (by omega) (by omega) (by omega) (by omega)).mono ?_; rintro e w1 ⟨rfl, h1⟩))
  have HC5 := hide (show Chg w V (w32 (BlkM.part v s 5)) w1 from Chg.trans HC.out.drew (by exact h1))
  clear HC d0 d1 h1
  have HC := hide HC5.out
  clear HC5
  have d0 := rd_w HC.out HS.out hne 10 (by rw [LS.out]; omega)
  have d1 := rd_w HC.out HS.out hne 11 (by rw [LS.out]; omega)
  go_still_tail 20, (by kernel_rfl)
  go_wp2_with ((go_at_call 101; refine (mix_any _ V 1 6 11 12 (BlkM.part v s 5) _ _ T (by exact HC.out.at HV.out) (by rw [LV.out]; omega) (by rw [LV.out]; omega) (by rw [LV.out]; omega) (by rw [LV.out]; omega) (by omega) (by omega) (by omega) (by omega) (by omega) (by omega)).mono ?_; rintro e w1 ⟨rfl, h1⟩))
  have HC6 := hide (show Chg w V (w32 (BlkM.part v s 6)) w1 from Chg.trans HC.out.drew (by exact h1))
  clear HC d0 d1 h1
  have HC := hide HC6.out
  clear HC6
  have d0 := rd_w HC.out HS.out hne 12 (by rw [LS.out]; omega)
  have d1 := rd_w HC.out HS.out hne 13 (by rw [LS.out]; omega)
  go_still_tail 20, (by kernel_rfl)
  go_wp2_with ((go_at_call 101; refine (mix_any _ V 2 7 8 13 (BlkM.part v s 6) _ _ T (by exact HC.out.at HV.out) (by rw [LV.out]; omega) (by rw [LV.out]; omega) (by rw [LV.out]; omega) (by rw [LV.out]; omega) (by omega) (by omega) (by omega) (by omega) (by omega) (by omega)).mono ?_; rintro e w1 ⟨rfl, h1⟩))
  have HC7 := hide (show Chg w V (w32 (BlkM.part v s 7)) w1 from Chg.trans HC.out.drew (by exact h1))
  clear HC d0 d1 h1
  have HC := hide HC7.out
  clear HC7
  have d0 := rd_w HC.out HS.out hne 14 (by rw [LS.out]; omega)
  have d1 := rd_w HC.out HS.out hne 15 (by rw [LS.out]; omega)
  go_still_tail 20, (by kernel_rfl)
  go_wp2_with ((go_at_call 101; refine (mix_any _ V 3 4 9 14 (BlkM.part v s 7) _ _ T (by exact HC.out.at HV.out) (by rw [LV.out]; omega) (by rw [LV.out]; omega) (by rw [LV.out]; omega) (by rw [LV.out]; omega) (by omega) (by omega) (by omega) (by omega) (by omega) (by omega)).mono ?_; rintro e w1 ⟨rfl, h1⟩))
  go_end0
  exact ⟨rfl, Chg.trans HC.out.drew (by exact h1)⟩
end BlkD
end Go.Proofs.YtpambhlhkmkagaaGreatDoor

namespace Go.Proofs.YtpambhlhkmkagaaGreatDoor
namespace BlkE
open Go.RowKit
open BlkM BlkA
/-- The number of a digit. -/
def valI (r : Int) : Int := if 48 ≤ r ∧ r ≤ 57 then r - 48 else if 97 ≤ r ∧ r ≤ 102 then r - 87 else -1
set_option maxHeartbeats 1000000 in
theorem value_any (r : Int) (w : World) (h0 : 0 ≤ r) (h1 : r ≤ 1114111) : Calls Tryz.prog 99 #[.int .i32 r] w fun e w' => e = .returned (.int .i64 (valI r)) ∧ w = w' := by
  by_cases a : 48 ≤ r ∧ r ≤ 57
  · have e : valI r = r - 48 := if_pos a
    rw [e]
    obtain ⟨a1, a2⟩ := a
    clear e
    go_enter Tryz.func99, Tryz.ntmps99
    go_wp2
    go_ret
    exact ⟨rfl, rfl⟩
  · by_cases b : 97 ≤ r ∧ r ≤ 102
    · have e : valI r = r - 97 + 10 := by unfold valI; rw [if_neg a, if_pos b]; omega
      rw [e]
      obtain ⟨b1, b2⟩ := b
      have a1 : 48 ≤ r := by omega
      have a2 : ¬ r ≤ 57 := by omega
      clear a e
      go_enter Tryz.func99, Tryz.ntmps99
      go_wp2
      go_ret
      exact ⟨rfl, rfl⟩
    · have e : valI r = -1 := by unfold valI; rw [if_neg a, if_neg b]
      rw [e]
      have A := hide a
      have B := hide b
      clear a b e
      by_cases a1 : 48 ≤ r
      · have a2 : ¬ r ≤ 57 := fun h => A.out ⟨a1, h⟩
        by_cases b1 : 97 ≤ r
        · have b2 : ¬ r ≤ 102 := fun h => B.out ⟨b1, h⟩
          go_enter Tryz.func99, Tryz.ntmps99
          go_wp2
          go_ret
          exact ⟨rfl, rfl⟩
        · go_enter Tryz.func99, Tryz.ntmps99
          go_wp2
          go_ret
          exact ⟨rfl, rfl⟩
      · have b1 : ¬ 97 ≤ r := by omega
        go_enter Tryz.func99, Tryz.ntmps99
        go_wp2
        go_ret
        exact ⟨rfl, rfl⟩

/-! ### The words of a block -/
def term (b : List Int) (i n : Nat) : Int := IntKind.u32.wrap (b.getD (4 * i + n) 0 * 2 ^ (8 * n))
def acc (b : List Int) (i : Nat) : Nat → Int
  | 0 => 0
  | n + 1 => oo (acc b i n) (term b i n)
/-- The words, when some bytes have come. -/
def wpart (b : List Int) : Nat → List Int
  | 0 => List.replicate 16 0
  | k + 1 => (wpart b k).set (k / 4) (oo ((wpart b k).getD (k / 4) 0) (term b (k / 4) (k % 4)))
theorem wpart_len (b : List Int) : ∀ k, (wpart b k).length = 16
  | 0 => rfl
  | k + 1 => by rw [wpart, List.length_set, wpart_len b k]
theorem wpart_get (b : List Int) : ∀ k, k ≤ 64 → ∀ i, i < 16 → (wpart b k).getD i 0 = acc b i (min 4 (k - 4 * i))
  | 0, _, i, hi => by
    rw [show min 4 (0 - 4 * i) = 0 by omega]
    simp only [wpart, acc, List.getD_eq_getElem?_getD, List.getElem?_replicate]
    split <;> rfl
  | k + 1, hk, i, hi => by
    have ih := wpart_get b k (by omega)
    rw [wpart]
    by_cases e : k / 4 = i
    · subst e
      have hl : k / 4 < (wpart b k).length := by rw [wpart_len]; omega
      rw [show ((wpart b k).set (k / 4) (oo ((wpart b k).getD (k / 4) 0) (term b (k / 4) (k % 4)))).getD (k / 4) 0 = oo ((wpart b k).getD (k / 4) 0) (term b (k / 4) (k % 4)) by simp [List.getD, hl]]
      rw [ih (k / 4) (by omega), show min 4 (k - 4 * (k / 4)) = k % 4 by omega, show min 4 (k + 1 - 4 * (k / 4)) = k % 4 + 1 by omega]
      rfl
    · rw [show ((wpart b k).set (k / 4) (oo ((wpart b k).getD (k / 4) 0) (term b (k / 4) (k % 4)))).getD i 0 = (wpart b k).getD i 0 by simp [List.getD, e]]
      rw [ih i hi]
      congr 1
      omega
theorem acc4 (b : List Int) (i : Nat) (h0 : 0 ≤ b.getD (4 * i) 0) (h1 : b.getD (4 * i) 0 < 256) : acc b i 4 = wordOf b i := by
  have e0 : term b i 0 = b.getD (4 * i) 0 := by
    unfold term
    rw [show 4 * i + 0 = 4 * i from rfl, show 8 * 0 = 0 from rfl, Int.pow_zero, Int.mul_one, IntKind.wrap_u32]
    omega
  simp only [acc]
  rw [e0, zero_oo _ h0 (by omega)]
  unfold wordOf term
  simp only [Nat.mul_one, show 8 * 2 = 16 from rfl, show 8 * 3 = 24 from rfl]
theorem wpart_all (b : List Int) (hr : ∀ i, 0 ≤ b.getD i 0 ∧ b.getD i 0 < 256) (z : Nat) (hz : z = 64) : wpart b z = wordsL b := by
  apply List.ext_getElem
  · rw [wpart_len, wordsL_len]
  · intro i h1 h2
    have h3 := wpart_get b z (by omega) i (by rw [wpart_len] at h1; exact h1)
    rw [show min 4 (z - 4 * i) = 4 by rw [wpart_len] at h1; omega, acc4 b i (hr _).1 (hr _).2] at h3
    rw [List.getD_eq_getElem?_getD, List.getElem?_eq_getElem h1] at h3
    have h4 : (wordsL b)[i] = wordOf b i := by simp [wordsL]
    rw [h4, ← h3]
    rfl

/-- What stands between two rounds of words' loop. -/
def Mid (w : World) (b : List Int) (i : Value) (U : World) : Prop :=
  ∃ k : Nat, k ≤ 64 ∧ i = .int .i64 (k : Int) ∧ At U (w.heap.size + 1) 131 (w32 (wpart b k)) ∧ At U w.heap.size 131 (w32 (List.replicate 16 0)) ∧ Below w.heap.size w U
set_option maxRecDepth 10000 in
set_option maxHeartbeats 1000000 in
theorem words_any (w : World) (D off : Nat) (b : List Int) (hb : ∀ i, i < 64 → w.cell? ⟨D, off + i, none⟩ = some (.int .u8 (b.getD i 0))) (hD : D < w.heap.size) (hr : ∀ i, 0 ≤ b.getD i 0 ∧ b.getD i 0 < 256) :
    Calls Tryz.prog 96 #[.pointer (some ⟨D, off, none⟩)] w fun e w' => e = .returned (.agg (w32 (wordsL b)).toArray) ∧ Below w.heap.size w w' := by
  have HB := hide hb
  have HR := hide hr
  have HD := hide hD
  clear hb hr hD
  have hst : Mid w b (.int .i64 0) ((w.alloc (.cells #[Value.int .u32 0, Value.int .u32 0, Value.int .u32 0, Value.int .u32 0, Value.int .u32 0, Value.int .u32 0, Value.int .u32 0, Value.int .u32 0, Value.int .u32 0, Value.int .u32 0, Value.int .u32 0, Value.int .u32 0, Value.int .u32 0, Value.int .u32 0, Value.int .u32 0, Value.int .u32 0] 131)).alloc (.cells #[Value.int .u32 0, Value.int .u32 0, Value.int .u32 0, Value.int .u32 0, Value.int .u32 0, Value.int .u32 0, Value.int .u32 0, Value.int .u32 0, Value.int .u32 0, Value.int .u32 0, Value.int .u32 0, Value.int .u32 0, Value.int .u32 0, Value.int .u32 0, Value.int .u32 0, Value.int .u32 0] 131)) := by
    refine ⟨0, by omega, rfl, ?_, At.alloc (At.new w 131 (w32 (List.replicate 16 0))) _, (by repeat (first | assumption | exact Below.refl _ _ | refine Below.setCell ?_ (by first | omega | (simp; done) | (simp; omega)) _ | refine below_drewN ?_ _ | refine Below.drew ?_ | refine Below.alloc ?_ (by first | omega | (simp; done) | (simp; omega)) _ | refine Below.trans ?_ (Below.mono (by assumption) (by first | omega | (simp; done) | (simp; omega)))))⟩
    have := At.new (w.alloc (.cells #[Value.int .u32 0, Value.int .u32 0, Value.int .u32 0, Value.int .u32 0, Value.int .u32 0, Value.int .u32 0, Value.int .u32 0, Value.int .u32 0, Value.int .u32 0, Value.int .u32 0, Value.int .u32 0, Value.int .u32 0, Value.int .u32 0, Value.int .u32 0, Value.int .u32 0, Value.int .u32 0] 131)) 131 (w32 (List.replicate 16 0))
    rw [World.size_alloc] at this
    exact this
  have HST := hide hst
  clear hst
  go_enter Tryz.func96, Tryz.ntmps96
  go_wp2_with fail
  go_loopw [7] (fun i wr => Mid w b i wr) (fun i _ => 64 - (intOf i).toNat)
  case atStart => exact HST.out
  case round =>
    obtain ⟨k, hk, rfl, hm, hz, hB⟩ := hrel
    by_cases hlt : k < 64
    · have c0 : wr.cell? ⟨D, off + k, none⟩ = some (.int .u8 (b.getD k 0)) := (hB.cell (p := ⟨D, off + k, none⟩) HD.out).trans (HB.out k hlt)
      obtain ⟨x, hx⟩ : ∃ x, b.getD k 0 = x := ⟨_, rfl⟩
      rw [hx] at c0
      have hlt2 : (k : Int) < 64 := by omega
      have HM := hide hm
      have HZ := hide hz
      have HBB := hide hB
      have HX := hide hx
      clear hm hz hB hx
      go_wp2_with fail
      go_quiet (fail)
      obtain ⟨i, n, hi, hn, hkn⟩ : ∃ i n : Nat, i < 16 ∧ n < 4 ∧ k = 4 * i + n := ⟨k / 4, k % 4, by omega, by omega, by omega⟩
      have q1 : (k : Int) / 4 = (i : Int) := by omega
      have q3 : (k : Int).tdiv 4 = (i : Int) := by rw [Int.tdiv_eq_ediv_of_nonneg (by omega)]; exact q1
      obtain ⟨y, hy⟩ : ∃ y, (wpart b k).getD i 0 = y := ⟨_, rfl⟩
      obtain ⟨W1, hW1⟩ : ∃ W1, W1 = wr.drewN nq := ⟨_, rfl⟩
      have hM1 : At W1 (w.heap.size + 1) 131 (w32 (wpart b k)) := by rw [hW1]; exact HM.out
      have hZ1 : At W1 w.heap.size 131 (w32 (List.replicate 16 0)) := by rw [hW1]; exact HZ.out
      have hB1 : Below w.heap.size w W1 := by rw [hW1]; exact below_drewN HBB.out _
      have cy : W1.cell? ⟨w.heap.size + 1, i, none⟩ = some (.int .u32 y) := by rw [hM1.cell, w32_get _ i (by rw [wpart_len]; exact hi), hy]
      have fy := hM1.frozen i
      have hi2 : (i : Int) < 16 := by omega
      rw [← hW1]
      have HN := hide hkn
      have HI := hide hi
      have HY := hide hy
      have HM1 := hide hM1
      have HZ1 := hide hZ1
      have HB1 := hide hB1
      have NQ : (k : Int) % 4 = (n : Int) := by omega
      have NQ2 : (k : Int).tmod 4 = (n : Int) := by rw [Int.tmod_eq_emod_of_nonneg (by omega)]; exact NQ
      clear hkn hi hy hM1 hZ1 hB1 HM HZ HBB hW1
      go_wp2_with fail
      match n, hn with
      | 0, _ =>
        obtain ⟨tm, htm⟩ : ∃ tm, (x) % 4294967296 = tm := ⟨_, rfl⟩
        have HTM := hide htm
        have hx0 : x % 4294967296 = tm := htm
        go_region
        go_wp2_with fail
        go_roundw
        case rel =>
          refine ⟨k + 1, by omega, by go_num, ?_, HZ1.out.setCell_other (by omega) _ _, (HB1.out.setCell (p := ⟨w.heap.size + 1, i, none⟩) (by simp) _).drew⟩
          have e1 : k / 4 = i := by have := HN.out; omega
          have e2 : k % 4 = 0 := by have := HN.out; omega
          have e3 : term b i 0 = tm := by
            unfold term
            rw [show 4 * i + 0 = k from HN.out.symm, HX.out, IntKind.wrap_u32, ← HTM.out]
            rw [show 8 * 0 = 0 from rfl, Int.pow_zero, Int.mul_one]
          rw [wpart, e1, e2, HY.out, e3, ← w32_set]
          exact (HM1.out.setCell i _)
        case measure => simp [intOf]; omega
      | 1, _ =>
        have hxx : x % 4294967296 = x := by have := HR.out k; rw [HX.out] at this; omega
        obtain ⟨tm, htm⟩ : ∃ tm, (x * 256) % 4294967296 = tm := ⟨_, rfl⟩
        have HTM := hide htm
        
        go_region
        go_wp2_with fail
        go_roundw
        case rel =>
          refine ⟨k + 1, by omega, by go_num, ?_, HZ1.out.setCell_other (by omega) _ _, (HB1.out.setCell (p := ⟨w.heap.size + 1, i, none⟩) (by simp) _).drew⟩
          have e1 : k / 4 = i := by have := HN.out; omega
          have e2 : k % 4 = 1 := by have := HN.out; omega
          have e3 : term b i 1 = tm := by
            unfold term
            rw [show 4 * i + 1 = k from HN.out.symm, HX.out, IntKind.wrap_u32, ← HTM.out]
            rfl
          rw [wpart, e1, e2, HY.out, e3, ← w32_set]
          exact (HM1.out.setCell i _)
        case measure => simp [intOf]; omega
      | 2, _ =>
        have hxx : x % 4294967296 = x := by have := HR.out k; rw [HX.out] at this; omega
        obtain ⟨tm, htm⟩ : ∃ tm, (x * 65536) % 4294967296 = tm := ⟨_, rfl⟩
        have HTM := hide htm
        
        go_region
        go_wp2_with fail
        go_roundw
        case rel =>
          refine ⟨k + 1, by omega, by go_num, ?_, HZ1.out.setCell_other (by omega) _ _, (HB1.out.setCell (p := ⟨w.heap.size + 1, i, none⟩) (by simp) _).drew⟩
          have e1 : k / 4 = i := by have := HN.out; omega
          have e2 : k % 4 = 2 := by have := HN.out; omega
          have e3 : term b i 2 = tm := by
            unfold term
            rw [show 4 * i + 2 = k from HN.out.symm, HX.out, IntKind.wrap_u32, ← HTM.out]
            rfl
          rw [wpart, e1, e2, HY.out, e3, ← w32_set]
          exact (HM1.out.setCell i _)
        case measure => simp [intOf]; omega
      | 3, _ =>
        have hxx : x % 4294967296 = x := by have := HR.out k; rw [HX.out] at this; omega
        obtain ⟨tm, htm⟩ : ∃ tm, (x * 16777216) % 4294967296 = tm := ⟨_, rfl⟩
        have HTM := hide htm
        
        go_region
        go_wp2_with fail
        go_roundw
        case rel =>
          refine ⟨k + 1, by omega, by go_num, ?_, HZ1.out.setCell_other (by omega) _ _, (HB1.out.setCell (p := ⟨w.heap.size + 1, i, none⟩) (by simp) _).drew⟩
          have e1 : k / 4 = i := by have := HN.out; omega
          have e2 : k % 4 = 3 := by have := HN.out; omega
          have e3 : term b i 3 = tm := by
            unfold term
            rw [show 4 * i + 3 = k from HN.out.symm, HX.out, IntKind.wrap_u32, ← HTM.out]
            rfl
          rw [wpart, e1, e2, HY.out, e3, ← w32_set]
          exact (HM1.out.setCell i _)
        case measure => simp [intOf]; omega
    · obtain rfl : k = 64 := by omega
      have e1 := wpart_all b HR.out 64 rfl
      rw [e1] at hm
      have HM := hide hm
      have HZ := hide hz
      have HB2 := hide (Below.setRowOwn hB (Nat.le_refl _) (w32 (wordsL b)).toArray)
      have HZ2 := hide (hz.put (w32 (wordsL b)))
      have HL : (w32 (wordsL b)).length = 16 := by rw [w32_len, wordsL_len]
      have HLEN := hide HL
      clear hm hz hB e1 HL
      go_upto_region 7 with (fail)
      refine wp_region_lit ?_
      refine stepLoad (by rfl) _ _ (by rfl) _ (by rfl) HM.out (.array 16 97) 16 Tryz.underlying131 rfl (by kernel_rfl) HLEN.out ?_
      refine stepStore (by rfl) _ _ _ (by rfl) _ _ (by rfl) (by rfl) HZ.out 16 (by kernel_rfl) (by rw [w32_len]; rfl) HLEN.out (oneCells_w32 _) ?_
      go_wp2_with fail
      exact bodyPost_ret (retRow HZ2.out Tryz.results96 _ (by rfl) (.array 16 97) 16 Tryz.underlying131 rfl (by kernel_rfl) HLEN.out) rfl ⟨rfl, HB2.out⟩
end BlkE
end Go.Proofs.YtpambhlhkmkagaaGreatDoor

namespace Go.Proofs.YtpambhlhkmkagaaGreatDoor
namespace BlkF
open Go.RowKit
open BlkM BlkA BlkD BlkE

/-! ### The table as text -/
def rowsS : ByteArray := ⟨#[48, 49, 50, 51, 52, 53, 54, 55, 56, 57, 97, 98, 99, 100, 101, 102, 101, 97, 52, 56, 57, 102, 100, 54, 49, 99, 48, 50, 98, 55, 53, 51, 98, 56, 99, 48, 53, 50, 102, 100, 97, 101, 51, 54, 55, 49, 57, 52, 55, 57, 51, 49, 100, 99, 98, 101, 50, 54, 53, 97, 52, 48, 102, 56, 57, 48, 53, 55, 50, 52, 97, 102, 101, 49, 98, 99, 54, 56, 51, 100, 50, 99, 54, 97, 48, 98, 56, 51, 52, 100, 55, 53, 102, 101, 49, 57, 99, 53, 49, 102, 101, 100, 52, 97, 48, 55, 54, 51, 57, 50, 56, 98, 100, 98, 55, 101, 99, 49, 51, 57, 53, 48, 102, 52, 56, 54, 50, 97, 54, 102, 101, 57, 98, 51, 48, 56, 99, 50, 100, 55, 49, 52, 97, 53, 97, 50, 56, 52, 55, 54, 49, 53, 102, 98, 57, 101, 51, 99, 100, 48]⟩
def tabS : List Nat := [0, 1, 2, 3, 4, 5, 6, 7, 8, 9, 10, 11, 12, 13, 14, 15, 14, 10, 4, 8, 9, 15, 13, 6, 1, 12, 0, 2, 11, 7, 5, 3, 11, 8, 12, 0, 5, 2, 15, 13, 10, 14, 3, 6, 7, 1, 9, 4, 7, 9, 3, 1, 13, 12, 11, 14, 2, 6, 5, 10, 4, 0, 15, 8, 9, 0, 5, 7, 2, 4, 10, 15, 14, 1, 11, 12, 6, 8, 3, 13, 2, 12, 6, 10, 0, 11, 8, 3, 4, 13, 7, 5, 15, 14, 1, 9, 12, 5, 1, 15, 14, 13, 4, 10, 0, 7, 6, 3, 9, 2, 8, 11, 13, 11, 7, 14, 12, 1, 3, 9, 5, 0, 15, 4, 8, 6, 2, 10, 6, 15, 14, 9, 11, 3, 0, 8, 12, 2, 13, 7, 1, 4, 10, 5, 10, 2, 8, 4, 7, 6, 1, 5, 15, 11, 9, 14, 3, 12, 13, 0]
def tab (k : Nat) : Nat := tabS.getD k 0
set_option maxRecDepth 100000 in
theorem tab_lt : ∀ k, k < 160 → tab k < 16 := by decide +kernel
set_option maxRecDepth 100000 in
theorem rowsS_get : ∀ k (h : k < rowsS.size), (rowsS[k]'h).toNat < 128 ∧ valI ((rowsS[k]'h).toNat : Int) = (tab k : Int) := by
  have : ∀ k, k < 160 → ∃ h : k < rowsS.size, (rowsS[k]'h).toNat < 128 ∧ valI ((rowsS[k]'h).toNat : Int) = (tab k : Int) := by decide +kernel
  intro k h
  obtain ⟨_, h2⟩ := this k h
  exact h2
set_option maxRecDepth 100000 in
theorem table_get : ∀ r, r < 10 → (table.getD r []).length = 16 ∧ ∀ i, i < 16 → (table.getD r []).getD i 0 = tab (16 * r + i) := by decide +kernel
/-- The words of the row, when some digits have come. -/
def rowAt (m : List Int) : Nat → List Int
  | 0 => List.replicate 16 0
  | k + 1 => (rowAt m k).set (k % 16) (m.getD (tab k) 0)
theorem rowAt_len (m : List Int) : ∀ k, (rowAt m k).length = 16
  | 0 => rfl
  | k + 1 => by rw [rowAt, List.length_set, rowAt_len m k]
theorem rowAt_get (m : List Int) (r : Nat) : ∀ j, j ≤ 16 → ∀ i, i < j → (rowAt m (16 * r + j)).getD i 0 = m.getD (tab (16 * r + i)) 0
  | 0, _, i, hi => by omega
  | j + 1, hj, i, hi => by
    rw [show 16 * r + (j + 1) = (16 * r + j) + 1 by omega, rowAt, show (16 * r + j) % 16 = j by omega]
    have hl : j < (rowAt m (16 * r + j)).length := by rw [rowAt_len]; omega
    by_cases e : j = i
    · subst e
      simp [List.getD, hl]
    · have := rowAt_get m r j (by omega) i (by omega)
      rw [← this]
      simp [List.getD, e]
theorem row_done (m : List Int) (r : Nat) (h : r < 10) (z : Nat) (hz : z = 16 * r + 16) : rowAt m z = sched m r := by
  obtain ⟨h1, h2⟩ := table_get r h
  subst hz
  apply List.ext_getElem
  · unfold sched; rw [rowAt_len, List.length_map, h1]
  · intro i a b
    have h3 := rowAt_get m r 16 (Nat.le_refl _) i (by rw [rowAt_len] at a; exact a)
    rw [List.getD_eq_getElem?_getD, List.getElem?_eq_getElem a] at h3
    have h4 := h2 i (by rw [rowAt_len] at a; exact a)
    have h5 : i < (table.getD r []).length := by rw [h1]; rw [rowAt_len] at a; exact a
    rw [List.getD_eq_getElem?_getD, List.getElem?_eq_getElem h5] at h4
    have h6 : (sched m r)[i] = m.getD ((table.getD r [])[i]) 0 := by simp only [sched, List.getElem_map]
    rw [h6]
    simp only [Option.getD_some] at h3 h4
    rw [h4, h3]

/-! ### A range over a text, in whatever world -/
def setIter (W : World) (K : Nat) (s : ByteArray) (pos : Nat) : World := { W with heap := W.heap.setIfInBounds K (.stringIter s pos) }
theorem setIter_size (W : World) (K : Nat) (s : ByteArray) (pos : Nat) : (setIter W K s pos).heap.size = W.heap.size := by simp [setIter]
theorem setIter_same (W : World) (K : Nat) (s : ByteArray) (pos : Nat) (o : Obj) (h : W.heap[K]? = some o) : (setIter W K s pos).heap[K]? = some (.stringIter s pos) := by
  have hl := (Array.getElem?_eq_some_iff.1 h).1
  simp [setIter, hl]
theorem setIter_other (W : World) (K k : Nat) (s : ByteArray) (pos : Nat) (h : k ≠ K) : (setIter W K s pos).heap[k]? = W.heap[k]? := by
  simp [setIter, Ne.symm h]
theorem below_setIter {B : Nat} {a w : World} (h : Below B a w) {K : Nat} (hK : B ≤ K) (s : ByteArray) (pos : Nat) : Below B a (setIter w K s pos) :=
  h.trans ⟨rfl, rfl, rfl, by rw [setIter_size]; exact Nat.le_refl _, fun k hk => setIter_other w K k s pos (by omega)⟩
theorem next_at {P : Program} (W : World) (K : Nat) (s : ByteArray) (pos : Nat) (ty : TypeId) (hk : W.heap[K]? = some (.stringIter s pos)) (h : pos < s.size) (ha : (s[pos]'h).toNat < 128) :
    (Instr.next (.pointer (some ⟨K, 0, none⟩)) true ty).run P W = .ok (.tuple #[.bool true, .int .i64 pos, .int .i32 (s[pos]'h).toNat]) (setIter W K s (pos + 1)) := by
  simp only [Instr.next, getObj, setObj, Sem.run_bind, Sem.run, hk, Result.andThen, h, if_true, decode_ascii s pos h ha]
  simp [goInt, setIter]
theorem next_end_at {P : Program} (W : World) (K : Nat) (s : ByteArray) (pos : Nat) (ty : TypeId) (hk : W.heap[K]? = some (.stringIter s pos)) (h : ¬ pos < s.size) :
    (Instr.next (.pointer (some ⟨K, 0, none⟩)) true ty).run P W = .ok (.tuple #[.bool false]) W := by
  simp [Instr.next, getObj, Sem.run, hk, h]
theorem at_iter {W : World} {V : Nat} {T : TypeId} {cs : List Value} (h : At W V T cs) (K : Nat) (s : ByteArray) (pos : Nat) (hne : V ≠ K) : At (setIter W K s pos) V T cs := (setIter_other W K V s pos hne).trans h
theorem chg_iter {w W : World} {V : Nat} {cs : List Value} (h : Chg w V cs W) {K : Nat} (hK : w.heap.size ≤ K) (s : ByteArray) (pos : Nat) : Chg w V cs (setIter W K s pos) := below_setIter h hK s pos
theorem chg_blk {w w1 : World} {V X : Nat} {cs : List Value} {o : Obj} (h : Chg w V cs w1) (k : w.heap[X]? = some o) (hx : X ≠ V) : w1.heap[X]? = some o := by
  have h2 : (w.setRow V cs.toArray).heap[X]? = some o := (setRow_other w V X _ hx).trans k
  exact (Below.block h X (Array.getElem?_eq_some_iff.1 k).1).trans h2
theorem iterPos_at (W : World) (K : Nat) (s : ByteArray) (p : Nat) (h : W.heap[K]? = some (.stringIter s p)) : W.iterPos K = p := by simp [World.iterPos, h]

theorem heapNew (w : World) (o : Obj) : (w.alloc o).heap[w.heap.size]? = some o := by
  show (w.heap.push _)[_]? = _
  simp
/-- What stands between two digits. -/
def Mid (w : World) (V : Nat) (v m : List Int) (U : World) : Prop :=
  ∃ k : Nat, k ≤ 160 ∧ U.heap[w.heap.size + 2]? = some (.stringIter rowsS k) ∧ At U w.heap.size 131 (w32 m) ∧ At U (w.heap.size + 1) 131 (w32 (rowAt m k)) ∧ Chg w V (w32 (roundsL v m (k / 16))) U
theorem mid_start (w : World) (V : Nat) (v m : List Int) (T : TypeId) (hv : At w V T (w32 v)) :
    Mid w V v m (((w.alloc (.cells (w32 m).toArray 131)).alloc (.cells #[Value.int .u32 0, Value.int .u32 0, Value.int .u32 0, Value.int .u32 0, Value.int .u32 0, Value.int .u32 0, Value.int .u32 0, Value.int .u32 0, Value.int .u32 0, Value.int .u32 0, Value.int .u32 0, Value.int .u32 0, Value.int .u32 0, Value.int .u32 0, Value.int .u32 0, Value.int .u32 0] 131)).alloc (.stringIter rowsS 0)) := by
  refine ⟨0, by omega, ?_, ?_, ?_, ?_⟩
  · have : ((w.alloc (.cells (w32 m).toArray 131)).alloc (.cells #[Value.int .u32 0, Value.int .u32 0, Value.int .u32 0, Value.int .u32 0, Value.int .u32 0, Value.int .u32 0, Value.int .u32 0, Value.int .u32 0, Value.int .u32 0, Value.int .u32 0, Value.int .u32 0, Value.int .u32 0, Value.int .u32 0, Value.int .u32 0, Value.int .u32 0, Value.int .u32 0] 131)).heap.size = w.heap.size + 2 := by simp
    have h := heapNew ((w.alloc (.cells (w32 m).toArray 131)).alloc (.cells #[Value.int .u32 0, Value.int .u32 0, Value.int .u32 0, Value.int .u32 0, Value.int .u32 0, Value.int .u32 0, Value.int .u32 0, Value.int .u32 0, Value.int .u32 0, Value.int .u32 0, Value.int .u32 0, Value.int .u32 0, Value.int .u32 0, Value.int .u32 0, Value.int .u32 0, Value.int .u32 0] 131)) (.stringIter rowsS 0)
    rw [this] at h
    exact h
  · exact At.alloc (At.alloc (At.new w _ _) _) _
  · have := At.new (w.alloc (.cells (w32 m).toArray 131)) 131 (w32 (List.replicate 16 0))
    rw [World.size_alloc] at this
    exact At.alloc this _
  · have hB : Below w.heap.size w (((w.alloc (.cells (w32 m).toArray 131)).alloc (.cells #[Value.int .u32 0, Value.int .u32 0, Value.int .u32 0, Value.int .u32 0, Value.int .u32 0, Value.int .u32 0, Value.int .u32 0, Value.int .u32 0, Value.int .u32 0, Value.int .u32 0, Value.int .u32 0, Value.int .u32 0, Value.int .u32 0, Value.int .u32 0, Value.int .u32 0, Value.int .u32 0] 131)).alloc (.stringIter rowsS 0)) := (by repeat (first | assumption | exact Below.refl _ _ | refine Below.setCell ?_ (by first | omega | (simp; done) | (simp; omega)) _ | refine below_drewN ?_ _ | refine Below.drew ?_ | refine Below.alloc ?_ (by first | omega | (simp; done) | (simp; omega)) _ | refine Below.trans ?_ (Below.mono (by assumption) (by first | omega | (simp; done) | (simp; omega)))))
    exact Chg.self hv hB

set_option maxRecDepth 10000 in
set_option maxHeartbeats 1000000 in
theorem rounds_any (w : World) (V : Nat) (v m : List Int) (T : TypeId) (hv : At w V T (w32 v)) (lv : v.length = 16) (lm : m.length = 16) :
    Calls Tryz.prog 95 #[.pointer (some ⟨V, 0, none⟩), .agg (w32 m).toArray] w fun e w' => e = .returned (.tuple #[]) ∧ Chg w V (w32 (roundsL v m 10)) w' := by
  have HST := hide (mid_start w V v m T hv)
  have HV := hide hv
  have LV := hide lv
  have LM := hide lm
  have hVlt := hv.lt
  clear hv lv lm
  go_enter Tryz.func95, Tryz.ntmps95
  go_wp2_with fail
  go_loopw [] (fun wr => Mid w V v m wr) (fun wr => 160 - wr.iterPos (w.heap.size + 2))
  case atStart => exact HST.out
  case round =>
    obtain ⟨k, hk, hit, hm, hr, hC⟩ := hrel
    by_cases hlt : k < 160
    · obtain ⟨p, hp, r, hkr⟩ : ∃ p, p < 16 ∧ ∃ r, k = 16 * r + p := ⟨k % 16, by omega, k / 16, by omega⟩
      obtain ⟨ha, hvl⟩ := rowsS_get k hlt
      have hnx := fun ty => next_at (P := Tryz.prog) wr _ rowsS k ty hit hlt ha
      obtain ⟨c, hc⟩ : ∃ c : Nat, (rowsS[k]'hlt).toNat = c := ⟨_, rfl⟩
      rw [hc] at ha hvl hnx
      obtain ⟨tv, htv⟩ : ∃ tv, tab k = tv := ⟨_, rfl⟩
      have ht16 : tv < 16 := by rw [← htv]; exact tab_lt k hlt
      rw [htv] at hvl
      obtain ⟨W1, hW1⟩ : ∃ W1, W1 = setIter wr (w.heap.size + 2) rowsS (k + 1) := ⟨_, rfl⟩
      rw [← hW1] at hnx
      have hit1 : W1.heap[w.heap.size + 2]? = some (.stringIter rowsS (k + 1)) := by rw [hW1]; exact setIter_same _ _ _ _ _ hit
      have hm1 : At W1 w.heap.size 131 (w32 m) := by rw [hW1]; exact at_iter hm _ _ _ (by omega)
      have hr1 : At W1 (w.heap.size + 1) 131 (w32 (rowAt m k)) := by rw [hW1]; exact at_iter hr _ _ _ (by omega)
      have hC1 : Chg w V (w32 (roundsL v m (k / 16))) W1 := by rw [hW1]; exact chg_iter hC (by omega) _ _
      obtain ⟨x, hx⟩ : ∃ x, m.getD tv 0 = x := ⟨_, rfl⟩
      have cm : W1.cell? ⟨w.heap.size, tv, none⟩ = some (.int .u32 x) := by rw [hm1.cell, w32_get m tv (by rw [LM.out]; exact ht16), hx]
      obtain ⟨y, hy⟩ : ∃ y, (rowAt m k).getD p 0 = y := ⟨_, rfl⟩
      have cr : W1.cell? ⟨w.heap.size + 1, p, none⟩ = some (.int .u32 y) := by rw [hr1.cell, w32_get _ p (by rw [rowAt_len]; exact hp), hy]
      have fr := hr1.frozen p
      have q1 : (k : Int) % 16 = (p : Int) := by omega
      have q2 : (k : Int).tmod 16 = (p : Int) := by rw [Int.tmod_eq_emod_of_nonneg (by omega)]; exact q1
      have ht2 : (tv : Int) < 16 := by omega
      have hp2 : (p : Int) < 16 := by omega
      have hr2 : At (W1.setCell ⟨w.heap.size + 1, p, none⟩ (.int .u32 x)) (w.heap.size + 1) 131 (w32 (rowAt m (k + 1))) := by
        have := hr1.setCell p (.int .u32 x)
        rw [w32_set, ← hx, ← htv] at this
        rw [rowAt, show k % 16 = p by omega, ← hx, ← htv]
        exact this
      have hm2 := hm1.setCell_other (X := w.heap.size + 1) (by omega) p (.int .u32 x)
      have hit2 : (W1.setCell ⟨w.heap.size + 1, p, none⟩ (.int .u32 x)).heap[w.heap.size + 2]? = some (.stringIter rowsS (k + 1)) := (heap_setCell_other _ _ _ _ (by simp)).trans hit1
      have hC2 : Chg w V (w32 (roundsL v m (k / 16))) (W1.setCell ⟨w.heap.size + 1, p, none⟩ (.int .u32 x)) := Below.setCell hC1 (by simp) _
      have HR2 := hide hr2
      have HM2 := hide hm2
      have HIT2 := hide hit2
      have HC2 := hide hC2
      have HKR := hide hkr
      have HIT := hide hit
      have HCV := hide hvl
      have HA := hide ha
      clear hit hm hr hC hW1 hit1 hm1 hr1 hC1 hr2 hm2 hit2 hC2 hkr hx hy htv hc
      by_cases hp15 : p = 15
      · subst hp15
        go_wp2_with (first
          | (go_at_call 99; refine (value_any _ _ (by omega) (by have := HA.out; omega)).mono ?_; rintro e w1 ⟨rfl, rfl⟩; rw [HCV.out])
          | (go_at_call 100; refine (round_any _ V (w.heap.size + 1) (roundsL v m (k / 16)) (rowAt m (k + 1)) T 131 (by exact HC2.out.at HV.out) (by exact HR2.out) (by omega) (by rw [roundsL_len]; exact LV.out) (rowAt_len _ _)).mono ?_; rintro e w1 ⟨rfl, h1⟩))
        have e0 := iterPos_at _ _ _ _ HIT.out
        go_roundw
        case rel =>
          have e1 := chg_blk h1 HIT2.out (by omega)
          have hk1 : (k + 1) / 16 = k / 16 + 1 := by have := HKR.out; omega
          refine ⟨k + 1, by omega, e1, h1.other HM2.out (by omega), h1.other HR2.out (by omega), ?_⟩
          rw [hk1, roundsL, ← row_done m (k / 16) (by omega) (k + 1) (by have := HKR.out; omega)]
          exact HC2.out.trans h1
        case measure =>
          have e1 := iterPos_at _ _ _ _ (chg_blk h1 HIT2.out (by omega))
          rw [e0, e1]
          omega
      · have hp3 : ¬ (p : Int) = 15 := by omega
        go_wp2_with (first
          | (go_at_call 99; refine (value_any _ _ (by omega) (by have := HA.out; omega)).mono ?_; rintro e w1 ⟨rfl, rfl⟩; rw [HCV.out]))
        have e0 := iterPos_at _ _ _ _ HIT.out
        go_roundw
        case rel =>
          have hk1 : (k + 1) / 16 = k / 16 := by have := HKR.out; omega
          refine ⟨k + 1, by omega, HIT2.out, HM2.out, HR2.out, ?_⟩
          rw [hk1]
          exact HC2.out
        case measure =>
          have e1 := iterPos_at _ _ _ _ HIT2.out
          rw [e0, e1]
          omega
    · obtain rfl : k = 160 := by omega
      have hnx := fun ty => next_end_at (P := Tryz.prog) wr _ rowsS 160 ty hit hlt
      have HC := hide hC
      clear hit hm hr hC
      go_wp2_with fail
      go_end0
      exact ⟨rfl, HC.out⟩
end BlkF
end Go.Proofs.YtpambhlhkmkagaaGreatDoor

