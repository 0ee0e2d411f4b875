/-
  The program's writer: a number's bytes.
-/
import Derived.Test.YtplinpbmncccoaaWirB
namespace Go.Proofs.Ytplinpbmncccoaa
namespace WirC
open Go.RowKit
open BlkM WirM WirS WirA WirB

/-- The form behind i rounds. -/
def cp (n : Int) (k : Nat) : Nat → List Int
  | 0 => (k : Int) :: List.replicate 8 0
  | i + 1 => (cp n k i).set (k - i) (n / 2 ^ (8 * i) % 256)
theorem cp_len (n : Int) (k : Nat) : ∀ i, (cp n k i).length = 9
  | 0 => rfl
  | i + 1 => by rw [cp, List.length_set, cp_len n k i]
def z9 : List Int := List.replicate 9 0
def MidC (w : World) (n : Int) (k : Nat) (i : Value) (U : World) : Prop :=
  ∃ j : Nat, j ≤ k ∧ i = .int .i64 (j : Int) ∧ At U w.heap.size 196 (b8 z9) ∧ At U (w.heap.size + 1) 196 (b8 (cp n k j)) ∧ Below w.heap.size w U
theorem wrap8 (n : Int) : IntKind.u8.wrap n = n % 256 := by simp [IntKind.wrap, IntKind.bits, IntKind.signed]
set_option maxHeartbeats 4000000 in
theorem counted_any (w : World) (n : Int) (k : Nat) (hk : k ≤ 8) (h0 : 0 ≤ n) (h1 : n < 18446744073709551616) :
    Calls Try.prog 173 #[.int .u64 n, .int .i64 (k : Int)] w fun e w' => e = .returned (.agg (b8 (cp n k k)).toArray) ∧ Below w.heap.size w w' := by
  obtain ⟨W0, eW0⟩ : ∃ X, X = (w.alloc (.cells (b8 z9).toArray 196)).alloc (.cells (b8 z9).toArray 196) := ⟨_, rfl⟩
  have hk8 : IntKind.u8.wrap (k : Int) = (k : Int) := by rw [wrap8]; omega
  have hst : MidC w n k (.int .i64 0) ((w.alloc (.cells (b8 z9).toArray 196)).alloc (.cells (b8 (cp n k 0)).toArray 196)) := by
    refine ⟨0, by omega, rfl, At.alloc (At.new w _ _) _, ?_, Below.alloc (Below.alloc (Below.refl _ _) (Nat.le_refl _) _) (by simp) _⟩
    have := At.new (w.alloc (.cells (b8 z9).toArray 196)) 196 (b8 (cp n k 0))
    rw [World.size_alloc] at this
    exact this
  have HST := hide hst
  clear hst
  go_enter Try.func173, Try.ntmps173
  go_wp2_with fail
  go_loopw [11] (fun i wr => MidC w n k i wr) (fun i _ => k - (intOf i).toNat)
  case atStart => exact HST.out
  case round =>
    obtain ⟨j, hj, rfl, hz, hc, hB⟩ := hrel
    by_cases hlt : j < k
    · obtain ⟨m, hm⟩ : ∃ m, k = m + j := ⟨k - j, by omega⟩
      have HZ := hide hz
      have HC := hide hc
      have HB := hide hB
      have ck := hc.cell m
      have fk := hc.frozen m
      rw [b8_get _ m (by rw [cp_len]; omega)] at ck
      have hm8 : (m : Int) < 9 := by omega
      have hm0 : 0 < m := by omega
      have hkl : k - j = m := by omega
      have HK := hide hkl
      clear hz hc hB hkl
      obtain rfl | rfl | rfl | rfl | rfl | rfl | rfl | rfl : j = 0 ∨ j = 1 ∨ j = 2 ∨ j = 3 ∨ j = 4 ∨ j = 5 ∨ j = 6 ∨ j = 7 := by omega
      · obtain rfl : k = m := by omega
        clear hm
        go_wp2_with fail
        go_roundw
        case rel =>
          refine ⟨1, by omega, by go_num, HZ.out.setCell_other (by omega) _ _, ?_, Below.setCell HB.out (by simp) _⟩
          have := HC.out.setCell k (.int .u8 (n % 256))
          rw [b8_set] at this
          simpa [cp] using this
        case measure => simp [intOf]; omega
      · have e1 : (k : Int) - 1 = (m : Int) := by omega
        have HM := hide hm
        clear hm
        go_wp2_with fail
        go_roundw
        case rel =>
          refine ⟨2, by have := HM.out; omega, by go_num, HZ.out.setCell_other (by omega) _ _, ?_, Below.setCell HB.out (by simp) _⟩
          have := HC.out.setCell m (.int .u8 (n / 2 ^ (8 * 1) % 256))
          rw [b8_set] at this
          rw [cp, HK.out]
          first | exact this | simpa using this
        case measure => have := HM.out; simp [intOf]; omega
      · have e1 : (k : Int) - 2 = (m : Int) := by omega
        have HM := hide hm
        clear hm
        go_wp2_with fail
        go_roundw
        case rel =>
          refine ⟨3, by have := HM.out; omega, by go_num, HZ.out.setCell_other (by omega) _ _, ?_, Below.setCell HB.out (by simp) _⟩
          have := HC.out.setCell m (.int .u8 (n / 2 ^ (8 * 2) % 256))
          rw [b8_set] at this
          rw [cp, HK.out]
          first | exact this | simpa using this
        case measure => have := HM.out; simp [intOf]; omega
      · have e1 : (k : Int) - 3 = (m : Int) := by omega
        have HM := hide hm
        clear hm
        go_wp2_with fail
        go_roundw
        case rel =>
          refine ⟨4, by have := HM.out; omega, by go_num, HZ.out.setCell_other (by omega) _ _, ?_, Below.setCell HB.out (by simp) _⟩
          have := HC.out.setCell m (.int .u8 (n / 2 ^ (8 * 3) % 256))
          rw [b8_set] at this
          rw [cp, HK.out]
          first | exact this | simpa using this
        case measure => have := HM.out; simp [intOf]; omega
      · have e1 : (k : Int) - 4 = (m : Int) := by omega
        have HM := hide hm
        clear hm
        go_wp2_with fail
        go_roundw
        case rel =>
          refine ⟨5, by have := HM.out; omega, by go_num, HZ.out.setCell_other (by omega) _ _, ?_, Below.setCell HB.out (by simp) _⟩
          have := HC.out.setCell m (.int .u8 (n / 2 ^ (8 * 4) % 256))
          rw [b8_set] at this
          rw [cp, HK.out]
          first | exact this | simpa using this
        case measure => have := HM.out; simp [intOf]; omega
      · have e1 : (k : Int) - 5 = (m : Int) := by omega
        have HM := hide hm
        clear hm
        go_wp2_with fail
        go_roundw
        case rel =>
          refine ⟨6, by have := HM.out; omega, by go_num, HZ.out.setCell_other (by omega) _ _, ?_, Below.setCell HB.out (by simp) _⟩
          have := HC.out.setCell m (.int .u8 (n / 2 ^ (8 * 5) % 256))
          rw [b8_set] at this
          rw [cp, HK.out]
          first | exact this | simpa using this
        case measure => have := HM.out; simp [intOf]; omega
      · have e1 : (k : Int) - 6 = (m : Int) := by omega
        have HM := hide hm
        clear hm
        go_wp2_with fail
        go_roundw
        case rel =>
          refine ⟨7, by have := HM.out; omega, by go_num, HZ.out.setCell_other (by omega) _ _, ?_, Below.setCell HB.out (by simp) _⟩
          have := HC.out.setCell m (.int .u8 (n / 2 ^ (8 * 6) % 256))
          rw [b8_set] at this
          rw [cp, HK.out]
          first | exact this | simpa using this
        case measure => have := HM.out; simp [intOf]; omega
      · have e1 : (k : Int) - 7 = (m : Int) := by omega
        have HM := hide hm
        clear hm
        go_wp2_with fail
        go_roundw
        case rel =>
          refine ⟨8, by have := HM.out; omega, by go_num, HZ.out.setCell_other (by omega) _ _, ?_, Below.setCell HB.out (by simp) _⟩
          have h7 : n / 72057594037927936 % 256 = n / 72057594037927936 := by omega
          have := HC.out.setCell m (.int .u8 (n / 2 ^ (8 * 7) % 256))
          rw [b8_set] at this
          rw [cp, HK.out]
          simpa [h7] using this
        case measure => have := HM.out; simp [intOf]; omega
    · obtain rfl : j = k := by omega
      have HB := hide hB
      have HZ := hide hz
      have HC := hide hc
      clear hz hc hB
      go_upto_region 7 with fail
      refine wp_region_lit ?_
      refine sL (by kernel_rfl) _ _ (by rfl) _ (by kernel_rfl) HC.out _ 9 Try.underlying196 rfl (by kernel_rfl) (by rw [b8_len, cp_len]) ?_
      simp only [Act.put, List.setIfInBounds_toArray, List.set_cons_succ, List.set_cons_zero]
      refine stepStore (by rfl) _ _ _ (by rfl) _ (b8 (cp n j j)) (by kernel_rfl) (by kernel_rfl) HZ.out 9 (by kernel_rfl) (by rw [b8_len]; rfl) (by rw [b8_len, cp_len]) (all_oneCell_toArray (one_b8 _)) ?_
      obtain ⟨WL, eWL⟩ : ∃ X, X = wr.setRow w.heap.size (b8 (cp n j j)).toArray := ⟨_, rfl⟩
      have hAL : At WL w.heap.size 196 (b8 (cp n j j)) := by rw [eWL]; exact HZ.out.put _
      have hBL : Below w.heap.size w WL := by rw [eWL]; exact Below.setRowOwn HB.out (Nat.le_refl _) _
      rw [← eWL]
      have HAL := hide hAL
      have HBL := hide hBL
      clear eWL hAL hBL
      go_wp2_with fail
      exact bodyPost_ret (retRow HAL.out Try.results173 _ (by rfl) (.array 9 5) 9 Try.underlying196 rfl (by kernel_rfl) (by rw [b8_len, cp_len])) rfl ⟨rfl, HBL.out⟩
end WirC
end Go.Proofs.Ytplinpbmncccoaa
