/-
  The reference's Sum.
-/
import Derived.Test.YtcokhdajdnkinaaWideR
import Derived.Test.YtcokhdajdnkinaaWideG
namespace Go.Proofs.Ytcokhdajdnkinaa
open Go.RowKit Go.Shelf
namespace WideS
open WideA WideB WideR WideI WideF WideG

def Mid (w : World) (A : Int) (wr : World) : Prop :=
  wr.heap[w.heap.size]? = some (.cells #[.int .u64 0, .int .u64 0] 24 (0, 0)) ∧ wr.heap[w.heap.size + 1]? = some (.cells #[.int .u64 (A / 18446744073709551616), .int .u64 (A % 18446744073709551616)] 24 (0, 0)) ∧ Below w.heap.size w wr ∧ w.heap.size + 1 + 1 ≤ wr.heap.size
theorem mid_below {w wr w1 : World} {A : Int} (h : Mid w A wr) (hb : Below wr.heap.size wr w1) : Mid w A w1 := by
  obtain ⟨h1, h2, h3, h4⟩ := h
  exact ⟨(hb.block _ (by omega)).trans h1, (hb.block _ (by omega)).trans h2, h3.trans (hb.mono h3.size), Nat.le_trans h4 hb.size⟩
theorem mid_put {w w1 : World} {A C : Int} (h : Mid w A w1) : Mid w C ((w1.setCell ⟨w.heap.size + 1, 0, none⟩ (.int .u64 (C / 18446744073709551616))).setCell ⟨w.heap.size + 1, 1, none⟩ (.int .u64 (C % 18446744073709551616))) := by
  obtain ⟨g1, g2, g3, g4⟩ := h
  refine ⟨?_, two_put _ _ g2, (g3.setCell (p := ⟨w.heap.size + 1, 0, none⟩) (by show w.heap.size ≤ w.heap.size + 1; omega) _).setCell (p := ⟨w.heap.size + 1, 1, none⟩) (by show w.heap.size ≤ w.heap.size + 1; omega) _, by simpa using g4⟩
  rw [Below.heap_setCell _ _ _ _ (by show w.heap.size ≠ w.heap.size + 1; omega), Below.heap_setCell _ _ _ _ (by show w.heap.size ≠ w.heap.size + 1; omega)]
  exact g1

set_option maxHeartbeats 4000000 in
theorem rsum_any (xs : List Int) (a : Option Addr) (b off n cap : Nat) (w : World) (hn : n = xs.length) (hn63 : n ≤ 9223372036854775807)
    (hw : ∀ k, 0 ≤ xs.getD k 0 → xs.getD k 0 ≤ 9223372036854775807)
    (ha : n = 0 ∨ a = some ⟨b, off, none⟩) (hcell : ∀ k, k < n → w.cell? ⟨b, off + k, none⟩ = some (.int .i64 (xs.getD k 0))) (hb : n = 0 ∨ b < w.heap.size) :
    Calls Try.prog 19 #[.slice a n cap] w fun e w' => ∃ V, e = .returned V ∧ sumRes xs V ∧ Below w.heap.size w w' := by
  have HC := hide hcell
  have HBB := hide hb
  clear hb
  have HA := hide ha
  have HN := hide hn
  have HW := hide hw
  have hstart : Mid w (sumTo xs 0) ((w.alloc (.cells #[.int .u64 0, .int .u64 0] 24)).alloc (.cells #[.int .u64 0, .int .u64 0] 24)) := by
    have h2 := World.alloc_heap_new (w.alloc (.cells #[.int .u64 0, .int .u64 0] 24)) (.cells #[.int .u64 0, .int .u64 0] 24)
    have h1 := World.alloc_heap_new w (.cells #[.int .u64 0, .int .u64 0] 24)
    simp only [World.size_alloc] at h1 h2
    refine ⟨?_, h2, (by repeat (first | assumption | exact Below.refl _ _ | refine Below.setCell ?_ (by first | omega | (simp; done) | (simp; omega)) _ | refine below_drewN ?_ _ | refine Below.drew ?_ | refine Below.alloc ?_ (by first | omega | (simp; done) | (simp; omega)) _ | refine Below.trans ?_ (Below.mono (by assumption) (by first | omega | (simp; done) | (simp; omega))))), by simp⟩
    rw [Below.heap_alloc _ _ _ (by simp)]
    exact h1
  have HS := hide hstart
  clear hcell ha hn hstart hw
  go_enter Try.func19, Try.ntmps19
  go_wp2
  go_loopw [5] (fun v wr => ∃ k : Nat, k ≤ n ∧ Hid (∀ j, j < k → 0 ≤ xs.getD j 0) ∧ v = .int .i64 k ∧ Mid w (sumTo xs k) wr) (fun v _ => n - (intOf v).toNat)
  case atStart => exact ⟨0, by omega, fun j hj => absurd hj (by omega), rfl, HS.out⟩
  case round =>
    obtain ⟨k, hk, HP, rfl, hM⟩ := hrel
    have bd := sumTo_bd xs HW.out k HP.out
    have HM := hide hM
    obtain ⟨hr, hacc, hB, hz⟩ := hM
    obtain ⟨p0, p1, p2, p3⟩ := two_cells hacc
    obtain ⟨r0, r1, r2, r3⟩ := two_cells hr
    obtain ⟨A, hA⟩ : ∃ A, A = sumTo xs k := ⟨_, rfl⟩
    rw [← hA] at p0 p1 HM bd
    have EA := hide hA
    have BD := hide bd
    clear hA hacc hr bd
    by_cases hlt : k < n
    · have hcl : wr.cell? ⟨b, off + k, none⟩ = some (.int .i64 (xs.getD k 0)) := (hB.cell (p := ⟨b, off + k, none⟩) (by have := HBB.out; show b < w.heap.size; omega)).trans (HC.out k hlt)
      obtain rfl : a = some ⟨b, off, none⟩ := by rcases HA.out with h | h; omega; exact h
      have hw1 := HW.out k
      obtain ⟨x, hx⟩ : ∃ x, x = xs.getD k 0 := ⟨_, rfl⟩
      rw [← hx] at hcl hw1
      have HX := hide hx
      clear hx
      by_cases hneg : x < 0
      · have R := fun W => rof_neg x W hneg
        have HR := hide R
        have HG := hide hneg
        clear R hneg hw1
        go_wp2_with fail
        refine (HR.out _).mono ?_
        rintro e w1 ⟨rfl, hb1⟩
        have hM1 := mid_below HM.out hb1
        obtain ⟨hr, hacc, hB1, hz1⟩ := hM1
        clear p0 p1 p2 p3 r0 r1 r2 r3 hcl hb1 hB hz
        obtain ⟨r0, r1, r2, r3⟩ := two_cells hr
        have y0 : w.heap.size < w1.heap.size := by omega
        have y1 : w.heap.size < w1.heap.size + 1 := by omega
        have y2 : ¬ w1.heap.size = w.heap.size := by omega
        have y3 : ¬ w.heap.size = w1.heap.size := by omega
        clear hr hacc
        go_wp2
        exact bodyPost_ret (v := .tuple #[.agg #[.int .u64 0, .int .u64 0], .int .i64 3]) (by simp [results, Try.results19, go_sem, r0, r1, y0]) rfl ⟨_, rfl, .inr ⟨⟨k, by rw [← HN.out]; exact hlt, by rw [← HX.out]; exact HG.out⟩, rfl⟩, (by repeat (first | assumption | exact Below.refl _ _ | refine Below.setCell ?_ (by first | omega | (simp; done) | (simp; omega)) _ | refine below_drewN ?_ _ | refine Below.drew ?_ | refine Below.alloc ?_ (by first | omega | (simp; done) | (simp; omega)) _ | refine Below.trans ?_ (Below.mono (by assumption) (by first | omega | (simp; done) | (simp; omega)))))⟩
      · have hx0 : 0 ≤ x := by omega
        have hx1 := hw1 hx0
        have bd := BD.out
        have R := fun W => rof_pos x W hx0 hx1
        have S := fun W => rPlus (A / 18446744073709551616) (A % 18446744073709551616) 0 x W (by omega) (by omega) (by omega) (by omega) (by decide) (by decide) hx0 (by omega)
        rw [show A / 18446744073709551616 * 18446744073709551616 + A % 18446744073709551616 + (0 * 18446744073709551616 + x) = A + x by omega, wRes_ok (by omega) (by omega)] at S
        have HR := hide R
        have HSm := hide S
        have HP2 : Hid (∀ j, j < k + 1 → 0 ≤ xs.getD j 0) := hide fun j hj => by
          by_cases hjk : j < k
          · exact HP.out j hjk
          · obtain rfl : j = k := by omega
            rw [← HX.out]; exact hx0
        have EA2 : Hid (sumTo xs (k + 1) = A + x) := hide (by show sumTo xs k + xs.getD k 0 = _; rw [← EA.out, ← HX.out])
        clear R S hw1 hneg hx0 hx1 bd
        go_wp2_with fail
        refine (HR.out _).mono ?_
        rintro e w1 ⟨rfl, hb1⟩
        have hM1 := mid_below HM.out hb1
        have HM1 := hide hM1
        obtain ⟨hr, hacc, hB1, hz1⟩ := hM1
        clear p0 p1 p2 p3 r0 r1 r2 r3 hcl hb1 hB hz
        obtain ⟨p0, p1, p2, p3⟩ := two_cells hacc
        have y0 : w.heap.size + 1 < w1.heap.size := by omega
        have y1 : w.heap.size + 1 < w1.heap.size + 1 := by omega
        have y2 : ¬ w1.heap.size = w.heap.size + 1 := by omega
        have y3 : ¬ w.heap.size + 1 = w1.heap.size := by omega
        clear hr hacc
        go_wp2_with fail
        refine (HSm.out _).mono ?_
        rintro e w2 ⟨rfl, hb2⟩
        have hM2 := mid_below (mid_below HM1.out ((Below.refl _ _).alloc (Nat.le_refl _) (.cells #[.int .u64 0, .int .u64 x] 24))) hb2
        have HM2 := hide hM2
        obtain ⟨hr, hacc, hB2, hz2⟩ := hM2
        clear p0 p1 p2 p3 hb2 y0 y1 y2 y3 hB1 hz1
        obtain ⟨p0, p1, p2, p3⟩ := two_cells hacc
        clear hr hacc
        go_wp2
        go_roundw
        case rel => exact ⟨k + 1, by omega, HP2, by go_num, by rw [EA2.out]; exact mid_put HM2.out⟩
        case measure => simp [intOf]; omega
    · obtain rfl : k = n := by omega
      go_wp2
      exact bodyPost_ret (v := .tuple #[.agg #[.int .u64 (A / 18446744073709551616), .int .u64 (A % 18446744073709551616)], .int .i64 0]) (by simp [results, Try.results19, go_sem, r0, r1]) rfl ⟨_, rfl, .inl ⟨by rw [← HN.out]; exact HP.out, by rw [← HN.out, ← EA.out]⟩, (by repeat (first | assumption | exact Below.refl _ _ | refine Below.setCell ?_ (by first | omega | (simp; done) | (simp; omega)) _ | refine below_drewN ?_ _ | refine Below.drew ?_ | refine Below.alloc ?_ (by first | omega | (simp; done) | (simp; omega)) _ | refine Below.trans ?_ (Below.mono (by assumption) (by first | omega | (simp; done) | (simp; omega)))))⟩
end WideS
end Go.Proofs.Ytcokhdajdnkinaa
