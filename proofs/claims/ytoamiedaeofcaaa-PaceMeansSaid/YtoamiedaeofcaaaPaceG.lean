/-
  Mean and Least, of package pace and of the document's answer.
-/
import Derived.Test.YtoamiedaeofcaaaPaceB
import Derived.Test.YtoamiedaeofcaaaPaceC
namespace Go.Proofs.Ytoamiedaeofcaaa
namespace PaceG
open Go.RowKit Go.Shelf
open FltR FltC PaceA PaceB PaceC

theorem smooth_canon (x y : Nat) : smooth (canon x) y = smooth x y := by
  cases h : isN x
  · have : canon x = x := by unfold canon; rw [h]; rfl
    rw [this]
  · have h2 := isN_canon x
    rw [h] at h2
    unfold smooth
    rw [h, h2]; rfl
/-- The form of the mean of the first k. -/
def meanTo (xs : List Nat) : Nat → Nat
  | 0 => 9221120237041090560
  | k + 1 => smooth (meanTo xs k) (xs.getD k 0)
/-- What Mean leaves. -/
def MnP (w : World) (xs : List Nat) (n : Nat) (e : Ending) (w' : World) : Prop := ∃ z, e = .returned (.float .f64 z) ∧ canon z = meanTo xs n ∧ z < 18446744073709551616 ∧ ∃ m, w' = w.drewN m
theorem mean_step {xs : List Nat} {k z x z2 : Nat} (h : canon z = meanTo xs k) (hx : x = xs.getD k 0) (hs : Sm z x z2) : canon z2 = meanTo xs (k + 1) ∧ z2 < 18446744073709551616 := by
  refine ⟨?_, hs.2⟩
  rw [hs.1, ← smooth_canon, h, hx]; rfl

set_option maxHeartbeats 400000 in
theorem nan_any (w : World) : Calls Try.prog 34 #[] w fun e w' => e = .returned (.float .f64 9221120237041090561) ∧ w = w' := by
  have hf : ∀ w : World, (callFunc 43 #[.int .u64 9221120237041090561]).run Try.prog w = .ok (.value (.float .f64 9221120237041090561)) w := ffrom 9221120237041090561
  go_enter Try.func34, Try.ntmps34
  go_wp2
  go_ret
  exact ⟨rfl, rfl⟩

set_option maxHeartbeats 1000000 in
theorem fold_any (xs : List Nat) (a : Option Addr) (b off n cap : Nat) (w : World) (hn : n = xs.length) (hn63 : n ≤ 9223372036854775807) (hw : ∀ k, xs.getD k 0 < 18446744073709551616) (ha : n = 0 ∨ a = some ⟨b, off, none⟩) (hcell : ∀ k, k < n → w.cell? ⟨b, off + k, none⟩ = some (.float .f64 (xs.getD k 0))) (_hb : n = 0 ∨ b < w.heap.size) (z0 : Nat) (hz : canon z0 = 9221120237041090560) (hz0 : z0 < 18446744073709551616) :
    Calls Try.prog 50 #[.slice a n cap, .float .f64 z0, .func (.func 24) #[] #[]] w (MnP w xs n) := by
  have HC := hide hcell
  have HA := hide ha
  have HN := hide hn
  have HW := hide hw
  have HZ := hide hz
  clear hcell ha hn hw hz _hb
  go_enter Try.func50, Try.ntmps50
  go_wp2_with fail
  go_loopw [7, 13] (fun v i wr => ∃ k z m : Nat, k ≤ n ∧ i = .int .i64 (k : Int) ∧ v = .float .f64 z ∧ Hid (canon z = meanTo xs k) ∧ z < 18446744073709551616 ∧ wr = w.drewN m) (fun _ i _ => n - (intOf i).toNat)
  case atStart => exact ⟨0, z0, 0, by omega, rfl, rfl, HZ.out, hz0, rfl⟩
  case round =>
    obtain ⟨k, z, m, hk, rfl, rfl, hm, hzl, rfl⟩ := hrel
    by_cases hlt : k < n
    · have hcl := HC.out k hlt
      obtain rfl : a = some ⟨b, off, none⟩ := by rcases HA.out with h | h; omega; exact h
      have hxl := HW.out k
      obtain ⟨x, hx⟩ : ∃ x, x = xs.getD k 0 := ⟨_, rfl⟩
      rw [← hx] at hcl hxl
      have HX := hide hx
      have C := hide (fun W => psm_any z x W hxl)
      clear hx hxl
      go_wp2_with fail
      refine (C.out _).mono ?_
      rintro e w1 ⟨z2, rfl, hs, q, rfl⟩
      have H2 := hide (mean_step hm.out HX.out hs)
      clear hs
      go_wp2
      go_roundw
      case rel => exact ⟨k + 1, z2, _, by omega, by go_num, rfl, H2.out.1, H2.out.2, rfl⟩
      case measure => simp [intOf]; omega
    · obtain rfl : k = n := by omega
      go_wp2
      go_ret
      exact ⟨z, rfl, hm.out, hzl, m, rfl⟩

set_option maxHeartbeats 1000000 in
/-- pace.Mean. -/
theorem mean_any (xs : List Nat) (a : Option Addr) (b off n cap : Nat) (w : World) (hn : n = xs.length) (hn63 : n ≤ 9223372036854775807) (hw : ∀ k, xs.getD k 0 < 18446744073709551616) (ha : n = 0 ∨ a = some ⟨b, off, none⟩) (hcell : ∀ k, k < n → w.cell? ⟨b, off + k, none⟩ = some (.float .f64 (xs.getD k 0))) (_hb : n = 0 ∨ b < w.heap.size) : Calls Try.prog 27 #[.slice a n cap] w (MnP w xs n) := by
  have C := hide (fold_any xs a b off n cap w hn hn63 hw ha hcell _hb 9221120237041090561 (by decide) (by decide))
  clear hn hw ha hcell _hb
  go_enter Try.func27, Try.ntmps27
  go_wp2_with fail
  refine (nan_any _).mono ?_
  rintro e w1 ⟨rfl, rfl⟩
  go_wp2_with fail
  refine (C.out).mono ?_
  rintro e w1 ⟨z, rfl, hz⟩
  have HZ := hide hz
  clear hz
  go_wp2
  go_ret
  exact ⟨z, rfl, HZ.out⟩

set_option maxHeartbeats 1000000 in
/-- The document's Mean. -/
theorem rmean_any (xs : List Nat) (a : Option Addr) (b off n cap : Nat) (w : World) (hn : n = xs.length) (hn63 : n ≤ 9223372036854775807) (hw : ∀ k, xs.getD k 0 < 18446744073709551616) (ha : n = 0 ∨ a = some ⟨b, off, none⟩) (hcell : ∀ k, k < n → w.cell? ⟨b, off + k, none⟩ = some (.float .f64 (xs.getD k 0))) (_hb : n = 0 ∨ b < w.heap.size) : Calls Try.prog 28 #[.slice a n cap] w (MnP w xs n) := by
  have HC := hide hcell
  have HA := hide ha
  have HN := hide hn
  have HW := hide hw
  have hf : ∀ w : World, (callFunc 43 #[.int .u64 9221120237041090560]).run Try.prog w = .ok (.value (.float .f64 9221120237041090560)) w := ffrom 9221120237041090560
  clear hcell ha hn hw _hb
  go_enter Try.func28, Try.ntmps28
  go_wp2_with fail
  go_loopw [3, 4] (fun v i wr => ∃ k z m : Nat, k ≤ n ∧ i = .int .i64 (k : Int) ∧ v = .float .f64 z ∧ Hid (canon z = meanTo xs k) ∧ z < 18446744073709551616 ∧ wr = w.drewN m) (fun _ i _ => n - (intOf i).toNat)
  case atStart => exact ⟨0, 9221120237041090560, 0, by omega, rfl, rfl, by show canon 9221120237041090560 = 9221120237041090560; decide, by decide, rfl⟩
  case round =>
    obtain ⟨k, z, m, hk, rfl, rfl, hm, hzl, rfl⟩ := hrel
    by_cases hlt : k < n
    · have hcl := HC.out k hlt
      obtain rfl : a = some ⟨b, off, none⟩ := by rcases HA.out with h | h; omega; exact h
      have hxl := HW.out k
      obtain ⟨x, hx⟩ : ∃ x, x = xs.getD k 0 := ⟨_, rfl⟩
      rw [← hx] at hcl hxl
      have HX := hide hx
      have C := hide (fun W => rsm_any z x W hxl)
      clear hx hxl
      go_wp2_with fail
      refine (C.out _).mono ?_
      rintro e w1 ⟨z2, rfl, hs, q, rfl⟩
      have H2 := hide (mean_step hm.out HX.out hs)
      clear hs
      go_wp2
      go_roundw
      case rel => exact ⟨k + 1, z2, _, by omega, by go_num, rfl, H2.out.1, H2.out.2, rfl⟩
      case measure => simp [intOf]; omega
    · obtain rfl : k = n := by omega
      go_wp2
      go_ret
      exact ⟨z, rfl, hm.out, hzl, m, rfl⟩

/-- Where the least one of the first k stands. -/
def leastTo (xs : List Nat) : Nat → Int
  | 0 => -1
  | k + 1 => if leastTo xs k < 0 then k else if cmp3 (rank (xs.getD k 0)) (rank (xs.getD (leastTo xs k).toNat 0)) < 0 then k else leastTo xs k
theorem leastTo_bd (xs : List Nat) : ∀ k, leastTo xs k = -1 ∧ k = 0 ∨ 0 ≤ leastTo xs k ∧ leastTo xs k < k
  | 0 => .inl ⟨rfl, rfl⟩
  | k + 1 => by
    have ih := leastTo_bd xs k
    right
    unfold leastTo
    split
    · omega
    · split <;> omega

set_option maxHeartbeats 1000000 in
/-- pace.Least. -/
theorem least_any (xs : List Nat) (a : Option Addr) (b off n cap : Nat) (w : World) (hn : n = xs.length) (hn63 : n ≤ 9223372036854775807) (hw : ∀ k, xs.getD k 0 < 18446744073709551616) (ha : n = 0 ∨ a = some ⟨b, off, none⟩) (hcell : ∀ k, k < n → w.cell? ⟨b, off + k, none⟩ = some (.float .f64 (xs.getD k 0))) (hb : n = 0 ∨ b < w.heap.size) : Calls Try.prog 29 #[.slice a n cap] w fun e w' => e = .returned (.int .i64 (leastTo xs n)) ∧ Below w.heap.size w w' := by
  have HC := hide hcell
  have HA := hide ha
  have HN := hide hn
  have HW := hide hw
  have HBB := hide hb
  clear hcell ha hn hw hb
  go_enter Try.func29, Try.ntmps29
  go_wp2_with fail
  go_loopw [3, 8] (fun v i wr => ∃ k : Nat, k ≤ n ∧ i = .int .i64 (k : Int) ∧ v = .int .i64 (leastTo xs k) ∧ Below w.heap.size w wr) (fun _ i _ => n - (intOf i).toNat)
  case atStart => exact ⟨0, by omega, rfl, rfl, Below.refl _ _⟩
  case round =>
    obtain ⟨k, hk, rfl, rfl, hB⟩ := hrel
    by_cases hlt : k < n
    · have hz : ∀ p : Addr, p.block = b → p.block < w.heap.size := by intro p hp; rw [hp]; rcases HBB.out with h | h; omega; exact h
      have hcl := (hB.cell (p := ⟨b, off + k, none⟩) (hz _ rfl)).trans (HC.out k hlt)
      obtain rfl : a = some ⟨b, off, none⟩ := by rcases HA.out with h | h; omega; exact h
      have bd := leastTo_bd xs k
      have hst : leastTo xs (k + 1) = if leastTo xs k < 0 then (k : Int) else if cmp3 (rank (xs.getD k 0)) (rank (xs.getD (leastTo xs k).toNat 0)) < 0 then (k : Int) else leastTo xs k := rfl
      obtain ⟨j, hj⟩ : ∃ j, j = leastTo xs k := ⟨_, rfl⟩
      rw [← hj] at bd hst
      rw [← hj]
      have hxl := HW.out k
      obtain ⟨x, hx⟩ : ∃ x, x = xs.getD k 0 := ⟨_, rfl⟩
      rw [← hx] at hcl hxl hst
      by_cases hneg : j < 0
      · rw [if_pos hneg] at hst
        have HS := hide hst
        clear hst hx hj bd hz
        go_wp2
        go_roundw
        case rel => exact ⟨k + 1, by omega, by go_num, by rw [HS.out], hB⟩
        case measure => simp [intOf]; omega
      · rw [if_neg hneg] at hst
        obtain ⟨q, rfl⟩ := Int.eq_ofNat_of_zero_le (show 0 ≤ j by omega)
        have hq : q < k := by omega
        have hql := HW.out q
        have hqc := (hB.cell (p := ⟨b, off + q, none⟩) (hz _ rfl)).trans (HC.out q (by omega))
        rw [Int.toNat_natCast] at hst
        obtain ⟨y, hy⟩ : ∃ y, y = xs.getD q 0 := ⟨_, rfl⟩
        rw [← hy] at hqc hql hst
        have C := fun W => cmp_any x y W hxl hql
        by_cases hcm : cmp3 (rank x) (rank y) < 0
        · rw [if_pos hcm] at hst
          generalize cmp3 (rank x) (rank y) = c at *
          have HS := hide hst
          have HCm := hide C
          clear hst hx hj bd hz C hy
          go_wp2_with fail
          refine (HCm.out _).mono ?_
          rintro e w1 ⟨rfl, hb1⟩
          have hB1 := hB.trans (hb1.mono hB.size)
          clear hb1
          go_wp2
          go_roundw
          case rel => exact ⟨k + 1, by omega, by go_num, by rw [HS.out], hB1⟩
          case measure => simp [intOf]; omega
        · rw [if_neg hcm] at hst
          generalize cmp3 (rank x) (rank y) = c at *
          have HS := hide hst
          have HCm := hide C
          clear hst hx hj bd hz C hy
          go_wp2_with fail
          refine (HCm.out _).mono ?_
          rintro e w1 ⟨rfl, hb1⟩
          have hB1 := hB.trans (hb1.mono hB.size)
          clear hb1
          go_wp2
          go_roundw
          case rel => exact ⟨k + 1, by omega, by go_num, by rw [HS.out], hB1⟩
          case measure => simp [intOf]; omega
    · obtain rfl : k = n := by omega
      go_wp2
      go_ret
      exact ⟨rfl, hB⟩

theorem rcmp_q (x y : Nat) (hx : x < 18446744073709551616) (hy : y < 18446744073709551616) (w : World) : Calls Try.prog 23 #[.float .f64 x, .float .f64 y] w fun e w' => e = .returned (.int .i64 (cmp3 (rank x) (rank y))) ∧ w' = w := (rcmp_any x y w hx hy).mono fun _ _ ⟨h, k⟩ => ⟨h, k.symm⟩
set_option maxHeartbeats 1000000 in
/-- The document's Least. -/
theorem rleast_any (xs : List Nat) (a : Option Addr) (b off n cap : Nat) (w : World) (hn : n = xs.length) (hn63 : n ≤ 9223372036854775807) (hw : ∀ k, xs.getD k 0 < 18446744073709551616) (ha : n = 0 ∨ a = some ⟨b, off, none⟩) (hcell : ∀ k, k < n → w.cell? ⟨b, off + k, none⟩ = some (.float .f64 (xs.getD k 0))) (_hb : n = 0 ∨ b < w.heap.size) : Calls Try.prog 30 #[.slice a n cap] w fun e w' => e = .returned (.int .i64 (leastTo xs n)) ∧ ∃ m, w' = w.drewN m := by
  have HC := hide hcell
  have HA := hide ha
  have HN := hide hn
  have HW := hide hw
  clear hcell ha hn hw _hb
  go_enter Try.func30, Try.ntmps30
  go_wp2_with fail
  go_loopw [3, 4] (fun v i wr => ∃ k m : Nat, k ≤ n ∧ i = .int .i64 (k : Int) ∧ v = .int .i64 (leastTo xs k) ∧ wr = w.drewN m) (fun _ i _ => n - (intOf i).toNat)
  case atStart => exact ⟨0, 0, by omega, rfl, rfl, rfl⟩
  case round =>
    obtain ⟨k, m, hk, rfl, rfl, hwr⟩ := hrel
    have HWR := hide hwr
    by_cases hlt : k < n
    · have hcl := HC.out k hlt
      rw [show w.cell? ⟨b, off + k, none⟩ = wr.cell? ⟨b, off + k, none⟩ by rw [hwr]; rfl] at hcl
      obtain rfl : a = some ⟨b, off, none⟩ := by rcases HA.out with h | h; omega; exact h
      have bd := leastTo_bd xs k
      have hst : leastTo xs (k + 1) = if leastTo xs k < 0 then (k : Int) else if cmp3 (rank (xs.getD k 0)) (rank (xs.getD (leastTo xs k).toNat 0)) < 0 then (k : Int) else leastTo xs k := rfl
      obtain ⟨j, hj⟩ : ∃ j, j = leastTo xs k := ⟨_, rfl⟩
      rw [← hj] at bd hst
      rw [← hj]
      have hxl := HW.out k
      obtain ⟨x, hx⟩ : ∃ x, x = xs.getD k 0 := ⟨_, rfl⟩
      rw [← hx] at hcl hxl hst
      have b1 : (k : Int) < (n : Int) := by omega
      by_cases hneg : j < 0
      · rw [if_pos hneg] at hst
        have HS := hide hst
        have hg : decide (j < 0) = true := by simpa using hneg
        clear hst hx hj bd hwr
        go_wp2_with fail
        go_quiet (fail)
        go_wp2
        go_roundw
        case rel => exact ⟨k + 1, _, by omega, by go_num, by rw [HS.out], by rw [HWR.out, World.drewN_drewN]⟩
        case measure => simp [intOf]; omega
      · rw [if_neg hneg] at hst
        obtain ⟨q, rfl⟩ := Int.eq_ofNat_of_zero_le (show 0 ≤ j by omega)
        have hq : q < k := by omega
        have hql := HW.out q
        have hqc := HC.out q (by omega)
        rw [show w.cell? ⟨b, off + q, none⟩ = wr.cell? ⟨b, off + q, none⟩ by rw [hwr]; rfl] at hqc
        rw [Int.toNat_natCast] at hst
        obtain ⟨y, hy⟩ : ∃ y, y = xs.getD q 0 := ⟨_, rfl⟩
        rw [← hy] at hqc hql hst
        have C := fun W => rcmp_q x y hxl hql W
        have hg : decide ((q : Int) < 0) = false := by simp
        have b2 : (q : Int) < (n : Int) := by omega
        by_cases hcm : cmp3 (rank x) (rank y) < 0
        · rw [if_pos hcm] at hst
          generalize cmp3 (rank x) (rank y) = c at *
          have HS := hide hst
          have HCm := hide C
          clear hst hx hj bd C hy hwr
          go_wp2_with fail
          go_quiet ((go_at_call 23; exact Calls.quiet_of_same (HCm.out _)))
          go_wp2
          go_roundw
          case rel => exact ⟨k + 1, _, by omega, by go_num, by rw [HS.out], by rw [HWR.out, World.drewN_drewN]⟩
          case measure => simp [intOf]; omega
        · rw [if_neg hcm] at hst
          generalize cmp3 (rank x) (rank y) = c at *
          have HS := hide hst
          have HCm := hide C
          clear hst hx hj bd C hy hwr
          go_wp2_with fail
          go_quiet ((go_at_call 23; exact Calls.quiet_of_same (HCm.out _)))
          go_wp2
          go_roundw
          case rel => exact ⟨k + 1, _, by omega, by go_num, by rw [HS.out], by rw [HWR.out, World.drewN_drewN]⟩
          case measure => simp [intOf]; omega
    · obtain rfl : k = n := by omega
      clear hwr
      go_wp2
      go_ret
      exact ⟨rfl, _, HWR.out⟩

end PaceG
end Go.Proofs.Ytoamiedaeofcaaa
