/-
  Layer 1's examples: WideKnown.
-/
import Derived.Test.YtefbgienbgcchaaWideH
namespace Go.Proofs.Ytefbgienbgcchaa
open Go.RowKit Go.Shelf
namespace WideK
open WideA WideB WideT WideI WideF WideG WideH

theorem k_plus (w : World) : Calls Try.prog 32 #[.agg #[.int .u64 18446744073709551615, .int .u64 18446744073709551615], .agg #[.int .u64 0, .int .u64 1], .agg #[.int .u64 0, .int .u64 0], .int .i64 7] w fun e w' => e = .returned (.bool true) ∧ Below w.heap.size w w' :=
  plus_true _ _ _ _ _ _ _ w (by decide) (by decide) (by decide) (by decide) (by decide) (by decide) (by decide) (by decide) (by kernel_rfl)
theorem k_times1 (w : World) : Calls Try.prog 34 #[.agg #[.int .u64 9223372036854775808, .int .u64 0], .int .i64 2, .agg #[.int .u64 0, .int .u64 0], .int .i64 7] w fun e w' => e = .returned (.bool true) ∧ Below w.heap.size w w' :=
  times_true _ _ _ _ _ _ w (fun W => by
    have C := times_any 9223372036854775808 0 2 W (by decide) (by decide) (by decide) (by decide) (by decide) (by decide)
    have e : wRes ((9223372036854775808 * 18446744073709551616 + 0) * 2) = .tuple #[.agg #[.int .u64 0, .int .u64 0], .int .i64 7] := by kernel_rfl
    rw [e] at C
    exact C)
theorem k_times2 (w : World) : Calls Try.prog 34 #[.agg #[.int .u64 18446744073709551615, .int .u64 18446744073709551615], .int .i64 0, .agg #[.int .u64 0, .int .u64 0], .int .i64 0] w fun e w' => e = .returned (.bool true) ∧ Below w.heap.size w w' :=
  times_true _ _ _ _ _ _ w (fun W => by
    have C := times_any 18446744073709551615 18446744073709551615 0 W (by decide) (by decide) (by decide) (by decide) (by decide) (by decide)
    have e : wRes ((18446744073709551615 * 18446744073709551616 + 18446744073709551615) * 0) = .tuple #[.agg #[.int .u64 0, .int .u64 0], .int .i64 0] := by kernel_rfl
    rw [e] at C
    exact C)
theorem k_times3 (w : World) : Calls Try.prog 34 #[.agg #[.int .u64 0, .int .u64 1], .int .i64 (-1), .agg #[.int .u64 0, .int .u64 0], .int .i64 3] w fun e w' => e = .returned (.bool true) ∧ Below w.heap.size w w' :=
  times_true _ _ _ _ _ _ w (fun W => times_neg 0 1 (-1) W (by decide))
theorem k_of5 (w : World) : Calls Try.prog 12 #[.int .i64 5] w fun e w' => e = .returned (.tuple #[.agg #[.int .u64 0, .int .u64 5], .int .i64 0]) ∧ Below w.heap.size w w' := of_pos 5 w (by decide) (by decide)
theorem k_of1 (w : World) : Calls Try.prog 12 #[.int .i64 (-1)] w fun e w' => e = .returned (.tuple #[.agg #[.int .u64 0, .int .u64 0], .int .i64 3]) ∧ Below w.heap.size w w' := of_neg (-1) w (by decide)
theorem k_clamp1 (w : World) : Calls Try.prog 22 #[.agg #[.int .u64 0, .int .u64 9223372036854775808]] w fun e w' => e = .returned (.int .i64 9223372036854775807) ∧ Below w.heap.size w w' := by
  have C := clamp_any 0 9223372036854775808 w (by decide) (by decide) (by decide)
  have e : clampN (0 * 18446744073709551616 + 9223372036854775808) = 9223372036854775807 := by decide
  rw [e] at C
  exact C
theorem k_clamp2 (w : World) : Calls Try.prog 22 #[.agg #[.int .u64 0, .int .u64 7]] w fun e w' => e = .returned (.int .i64 7) ∧ Below w.heap.size w w' := by
  have C := clamp_any 0 7 w (by decide) (by decide) (by decide)
  have e : clampN (0 * 18446744073709551616 + 7) = 7 := by decide
  rw [e] at C
  exact C

theorem k_sum1 (W : World) (b : Nat) (hc : ∀ k, k < 4 → W.cell? ⟨b, 0 + k, none⟩ = some (.int .i64 4611686018427387904)) (hb : b < W.heap.size) :
    Calls Try.prog 18 #[.slice (some ⟨b, 0, none⟩) 4 4] W fun e w' => e = .returned (.tuple #[.agg #[.int .u64 1, .int .u64 0], .int .i64 0]) ∧ Below W.heap.size W w' := by
  have hg : ∀ k, k < 4 → [4611686018427387904, 4611686018427387904, 4611686018427387904, 4611686018427387904].getD k (0 : Int) = 4611686018427387904 := by decide
  refine (sum_any [4611686018427387904, 4611686018427387904, 4611686018427387904, 4611686018427387904] _ b 0 4 4 W rfl (by decide) (fun k => ?_) (.inr rfl) (fun k hk => by rw [hg k hk]; exact hc k hk) hb).mono ?_
  · intro h
    by_cases hk : k < 4
    · rw [hg k hk]; decide
    · rw [List.getD, List.getElem?_eq_none (by simp; omega)]; decide
  · rintro e w' ⟨V, rfl, h, hB⟩
    refine ⟨?_, hB⟩
    rcases h with ⟨_, rfl⟩ | ⟨⟨k, hk, hn⟩, _⟩
    · rfl
    · rw [hg k hk] at hn
      exact absurd hn (by decide)
theorem k_sum2 (W : World) (b : Nat) (h0 : W.cell? ⟨b, 0, none⟩ = some (.int .i64 1)) (h1 : W.cell? ⟨b, 1, none⟩ = some (.int .i64 (-1))) (hb : b < W.heap.size) :
    Calls Try.prog 18 #[.slice (some ⟨b, 0, none⟩) 2 2] W fun e w' => e = .returned (.tuple #[.agg #[.int .u64 0, .int .u64 0], .int .i64 3]) ∧ Below W.heap.size W w' := by
  refine (sum_any [1, -1] _ b 0 2 2 W rfl (by decide) (fun k => ?_) (.inr rfl) (fun k hk => ?_) hb).mono ?_
  · match k with
    | 0 => intro _; decide
    | 1 => intro _; decide
    | k + 2 => intro _; show (0 : Int) ≤ _; decide
  · match k, hk with
    | 0, _ => exact h0
    | 1, _ => exact h1
  · rintro e w' ⟨V, rfl, h, hB⟩
    refine ⟨?_, hB⟩
    rcases h with ⟨h, _⟩ | ⟨_, rfl⟩
    · exact absurd (h 1 (by decide)) (by decide)
    · rfl
theorem k_more0 (w : World) : Calls Try.prog 25 #[.agg #[.int .u64 0, .int .u64 1], .int .i64 (-1), .agg #[.int .u64 0, .int .u64 1], .int .i64 1] w fun e w' => e = .returned (.tuple #[.bool false, .int .i64 3]) ∧ Below w.heap.size w w' :=
  more_neg _ _ _ _ _ _ w (.inl (by decide))
theorem k_more1 (w : World) : Calls Try.prog 36 #[.agg #[.int .u64 18446744073709551615, .int .u64 18446744073709551615], .int .i64 2, .agg #[.int .u64 18446744073709551615, .int .u64 18446744073709551615], .int .i64 2, .bool false] w fun e w' => e = .returned (.bool true) ∧ Below w.heap.size w w' :=
  more_true _ _ _ _ _ _ _ w (by decide) (by decide) (by decide) (by decide) (by decide) (by decide) (by decide) (by decide) (by decide) (by decide) (by decide) (by decide) (by decide)
theorem k_more2 (w : World) : Calls Try.prog 36 #[.agg #[.int .u64 1, .int .u64 0], .int .i64 1, .agg #[.int .u64 0, .int .u64 9223372036854775808], .int .i64 2, .bool false] w fun e w' => e = .returned (.bool true) ∧ Below w.heap.size w w' :=
  more_true _ _ _ _ _ _ _ w (by decide) (by decide) (by decide) (by decide) (by decide) (by decide) (by decide) (by decide) (by decide) (by decide) (by decide) (by decide) (by decide)
theorem k_more3 (w : World) : Calls Try.prog 36 #[.agg #[.int .u64 0, .int .u64 0], .int .i64 5, .agg #[.int .u64 0, .int .u64 1], .int .i64 0, .bool false] w fun e w' => e = .returned (.bool true) ∧ Below w.heap.size w w' :=
  more_true _ _ _ _ _ _ _ w (by decide) (by decide) (by decide) (by decide) (by decide) (by decide) (by decide) (by decide) (by decide) (by decide) (by decide) (by decide) (by decide)
theorem k_text0 (w : World) : Calls Try.prog 29 #[.agg #[.int .u64 0, .int .u64 0]] w fun e w' => e = .returned (.string ⟨#[48]⟩) ∧ Below w.heap.size w w' := by
  have C := text_any 0 0 w (by decide) (by decide) (by decide) (by decide)
  have e : textOf (0 * 18446744073709551616 + 0) = ⟨#[48]⟩ := by kernel_rfl
  rw [e] at C
  exact C
theorem k_reads1 (w : World) : Calls Try.prog 37 #[.string ⟨#[51, 52, 48, 50, 56, 50, 51, 54, 54, 57, 50, 48, 57, 51, 56, 52, 54, 51, 52, 54, 51, 51, 55, 52, 54, 48, 55, 52, 51, 49, 55, 54, 56, 50, 49, 49, 52, 53, 54]⟩, .agg #[.int .u64 0, .int .u64 0], .int .i64 3, .int .i64 0] w fun e w' => e = .returned (.bool true) ∧ Below w.heap.size w w' :=
  reads_true _ _ _ _ _ w (by decide) (by kernel_rfl)
theorem k_reads2 (w : World) : Calls Try.prog 37 #[.string ⟨#[48, 55]⟩, .agg #[.int .u64 0, .int .u64 0], .int .i64 5, .int .i64 0] w fun e w' => e = .returned (.bool true) ∧ Below w.heap.size w w' :=
  reads_true _ _ _ _ _ w (by decide) (by kernel_rfl)
theorem k_reads3 (w : World) : Calls Try.prog 37 #[.string ⟨#[]⟩, .agg #[.int .u64 0, .int .u64 0], .int .i64 6, .int .i64 0] w fun e w' => e = .returned (.bool true) ∧ Below w.heap.size w w' :=
  reads_true _ _ _ _ _ w (by decide) (by kernel_rfl)
theorem k_reads4 (w : World) : Calls Try.prog 37 #[.string ⟨#[49, 97]⟩, .agg #[.int .u64 0, .int .u64 0], .int .i64 5, .int .i64 1] w fun e w' => e = .returned (.bool true) ∧ Below w.heap.size w w' :=
  reads_true _ _ _ _ _ w (by decide) (by kernel_rfl)

set_option maxRecDepth 100000 in
set_option maxHeartbeats 4000000 in
theorem known_any (w : World) : Calls Try.prog 6 #[] w fun e w' => e = .returned (.bool true) ∧ Below w.heap.size w w' := by
  go_enter Try.func6, Try.ntmps6
  go_wp2_with fail
  refine (k_of5 _).mono ?_
  rintro e w1 ⟨rfl, hB⟩
  go_wp2_with fail
  refine (k_of1 _).mono ?_
  rintro e w2 ⟨rfl, hb⟩
  have c0 := (hb.cell (p := ⟨w1.heap.size, 0, none⟩) (by simp)).trans (c := some (.int .u64 0)) (by simp [go_sem])
  have c1 := (hb.cell (p := ⟨w1.heap.size, 1, none⟩) (by simp)).trans (c := some (.int .u64 5)) (by simp [go_sem])
  have hz := hb.size
  simp only [World.size_alloc] at hz
  have z0 : w1.heap.size < w2.heap.size := by omega
  have hB2 : Below w.heap.size w w2 := (hB.trans ((Below.refl _ _).alloc hB.size _)).trans (hb.mono (by have := hB.size; simp; omega))
  have hs1 := hB.size
  have hs2 := hB2.size
  clear hb hB hz
  generalize w1.heap.size = b1 at *
  go_wp2_with fail
  go_region_held3 (fun w' => w'.cell? ⟨b1, 0, none⟩ = some (.int .u64 0) ∧ w'.cell? ⟨b1, 1, none⟩ = some (.int .u64 5) ∧ b1 < w'.heap.size ∧ Below w.heap.size w w')
    (first
      | exact ⟨c0, c1, z0, hB⟩
      | exact ⟨by simp [go_sem, c0, z0], by simp [go_sem, c1, z0], by simp; omega, (by repeat (first | assumption | exact Below.refl _ _ | refine Below.setCell ?_ (by first | omega | (simp; done) | (simp; omega)) _ | refine below_drewN ?_ _ | refine Below.drew ?_ | refine Below.alloc ?_ (by first | omega | (simp; done) | (simp; omega)) _ | refine Below.trans ?_ (Below.mono (by assumption) (by first | omega | (simp; done) | (simp; omega)))))⟩)
    (first
      | (go_at_call 31; refine (low_any _ _).mono ?_; rintro e w9 ⟨rfl, hb⟩; have c0 := (hb.cell (p := ⟨b1, 0, none⟩) (by first | (simp; done) | (simp; omega) | (dsimp only; omega))).trans (c := some (.int .u64 0)) (by first | assumption | (simp [go_sem, c0, z0]; done)); have c1 := (hb.cell (p := ⟨b1, 1, none⟩) (by first | (simp; done) | (simp; omega) | (dsimp only; omega))).trans (c := some (.int .u64 5)) (by first | assumption | (simp [go_sem, c1, z0]; done)); have z0 : b1 < w9.heap.size := (by first | (have := hb.size; simp at this; omega) | (have := hb.size; omega)); have hB := Below.trans (B := w.heap.size) (a := w) (b := _) (c := w9) (by first | assumption | exact (by repeat (first | assumption | exact Below.refl _ _ | refine Below.setCell ?_ (by first | omega | (simp; done) | (simp; omega)) _ | refine below_drewN ?_ _ | refine Below.drew ?_ | refine Below.alloc ?_ (by first | omega | (simp; done) | (simp; omega)) _ | refine Below.trans ?_ (Below.mono (by assumption) (by first | omega | (simp; done) | (simp; omega)))))) (hb.mono (by first | (simp; done) | (simp; omega) | (have := Below.size (by assumption); omega) | omega)); have hs9 := hB.size; clear hb)
      | (go_at_call 35; refine (high_any _ _).mono ?_; rintro e w9 ⟨rfl, hb⟩; have c0 := (hb.cell (p := ⟨b1, 0, none⟩) (by first | (simp; done) | (simp; omega) | (dsimp only; omega))).trans (c := some (.int .u64 0)) (by first | assumption | (simp [go_sem, c0, z0]; done)); have c1 := (hb.cell (p := ⟨b1, 1, none⟩) (by first | (simp; done) | (simp; omega) | (dsimp only; omega))).trans (c := some (.int .u64 5)) (by first | assumption | (simp [go_sem, c1, z0]; done)); have z0 : b1 < w9.heap.size := (by first | (have := hb.size; simp at this; omega) | (have := hb.size; omega)); have hB := Below.trans (B := w.heap.size) (a := w) (b := _) (c := w9) (by first | assumption | exact (by repeat (first | assumption | exact Below.refl _ _ | refine Below.setCell ?_ (by first | omega | (simp; done) | (simp; omega)) _ | refine below_drewN ?_ _ | refine Below.drew ?_ | refine Below.alloc ?_ (by first | omega | (simp; done) | (simp; omega)) _ | refine Below.trans ?_ (Below.mono (by assumption) (by first | omega | (simp; done) | (simp; omega)))))) (hb.mono (by first | (simp; done) | (simp; omega) | (have := Below.size (by assumption); omega) | omega)); have hs9 := hB.size; clear hb)
      | (go_at_call 33; refine (most_any _).mono ?_; rintro e w9 ⟨rfl, hb⟩; have c0 := (hb.cell (p := ⟨b1, 0, none⟩) (by first | (simp; done) | (simp; omega) | (dsimp only; omega))).trans (c := some (.int .u64 0)) (by first | assumption | (simp [go_sem, c0, z0]; done)); have c1 := (hb.cell (p := ⟨b1, 1, none⟩) (by first | (simp; done) | (simp; omega) | (dsimp only; omega))).trans (c := some (.int .u64 5)) (by first | assumption | (simp [go_sem, c1, z0]; done)); have z0 : b1 < w9.heap.size := (by first | (have := hb.size; simp at this; omega) | (have := hb.size; omega)); have hB := Below.trans (B := w.heap.size) (a := w) (b := _) (c := w9) (by first | assumption | exact (by repeat (first | assumption | exact Below.refl _ _ | refine Below.setCell ?_ (by first | omega | (simp; done) | (simp; omega)) _ | refine below_drewN ?_ _ | refine Below.drew ?_ | refine Below.alloc ?_ (by first | omega | (simp; done) | (simp; omega)) _ | refine Below.trans ?_ (Below.mono (by assumption) (by first | omega | (simp; done) | (simp; omega)))))) (hb.mono (by first | (simp; done) | (simp; omega) | (have := Below.size (by assumption); omega) | omega)); have hs9 := hB.size; clear hb)
      | (go_at_call 32; refine (k_plus _).mono ?_; rintro e w9 ⟨rfl, hb⟩; have c0 := (hb.cell (p := ⟨b1, 0, none⟩) (by first | (simp; done) | (simp; omega) | (dsimp only; omega))).trans (c := some (.int .u64 0)) (by first | assumption | (simp [go_sem, c0, z0]; done)); have c1 := (hb.cell (p := ⟨b1, 1, none⟩) (by first | (simp; done) | (simp; omega) | (dsimp only; omega))).trans (c := some (.int .u64 5)) (by first | assumption | (simp [go_sem, c1, z0]; done)); have z0 : b1 < w9.heap.size := (by first | (have := hb.size; simp at this; omega) | (have := hb.size; omega)); have hB := Below.trans (B := w.heap.size) (a := w) (b := _) (c := w9) (by first | assumption | exact (by repeat (first | assumption | exact Below.refl _ _ | refine Below.setCell ?_ (by first | omega | (simp; done) | (simp; omega)) _ | refine below_drewN ?_ _ | refine Below.drew ?_ | refine Below.alloc ?_ (by first | omega | (simp; done) | (simp; omega)) _ | refine Below.trans ?_ (Below.mono (by assumption) (by first | omega | (simp; done) | (simp; omega)))))) (hb.mono (by first | (simp; done) | (simp; omega) | (have := Below.size (by assumption); omega) | omega)); have hs9 := hB.size; clear hb)
      | (go_at_call_of 34 (Value.int .i64 2); refine (k_times1 _).mono ?_; rintro e w9 ⟨rfl, hb⟩; have c0 := (hb.cell (p := ⟨b1, 0, none⟩) (by first | (simp; done) | (simp; omega) | (dsimp only; omega))).trans (c := some (.int .u64 0)) (by first | assumption | (simp [go_sem, c0, z0]; done)); have c1 := (hb.cell (p := ⟨b1, 1, none⟩) (by first | (simp; done) | (simp; omega) | (dsimp only; omega))).trans (c := some (.int .u64 5)) (by first | assumption | (simp [go_sem, c1, z0]; done)); have z0 : b1 < w9.heap.size := (by first | (have := hb.size; simp at this; omega) | (have := hb.size; omega)); have hB := Below.trans (B := w.heap.size) (a := w) (b := _) (c := w9) (by first | assumption | exact (by repeat (first | assumption | exact Below.refl _ _ | refine Below.setCell ?_ (by first | omega | (simp; done) | (simp; omega)) _ | refine below_drewN ?_ _ | refine Below.drew ?_ | refine Below.alloc ?_ (by first | omega | (simp; done) | (simp; omega)) _ | refine Below.trans ?_ (Below.mono (by assumption) (by first | omega | (simp; done) | (simp; omega)))))) (hb.mono (by first | (simp; done) | (simp; omega) | (have := Below.size (by assumption); omega) | omega)); have hs9 := hB.size; clear hb)
      | (go_at_call_of 34 (Value.int .i64 3); refine (k_times3 _).mono ?_; rintro e w9 ⟨rfl, hb⟩; have c0 := (hb.cell (p := ⟨b1, 0, none⟩) (by first | (simp; done) | (simp; omega) | (dsimp only; omega))).trans (c := some (.int .u64 0)) (by first | assumption | (simp [go_sem, c0, z0]; done)); have c1 := (hb.cell (p := ⟨b1, 1, none⟩) (by first | (simp; done) | (simp; omega) | (dsimp only; omega))).trans (c := some (.int .u64 5)) (by first | assumption | (simp [go_sem, c1, z0]; done)); have z0 : b1 < w9.heap.size := (by first | (have := hb.size; simp at this; omega) | (have := hb.size; omega)); have hB := Below.trans (B := w.heap.size) (a := w) (b := _) (c := w9) (by first | assumption | exact (by repeat (first | assumption | exact Below.refl _ _ | refine Below.setCell ?_ (by first | omega | (simp; done) | (simp; omega)) _ | refine below_drewN ?_ _ | refine Below.drew ?_ | refine Below.alloc ?_ (by first | omega | (simp; done) | (simp; omega)) _ | refine Below.trans ?_ (Below.mono (by assumption) (by first | omega | (simp; done) | (simp; omega)))))) (hb.mono (by first | (simp; done) | (simp; omega) | (have := Below.size (by assumption); omega) | omega)); have hs9 := hB.size; clear hb)
      | (go_at_call_of 34 (Value.int .i64 0); refine (k_times2 _).mono ?_; rintro e w9 ⟨rfl, hb⟩; have c0 := (hb.cell (p := ⟨b1, 0, none⟩) (by first | (simp; done) | (simp; omega) | (dsimp only; omega))).trans (c := some (.int .u64 0)) (by first | assumption | (simp [go_sem, c0, z0]; done)); have c1 := (hb.cell (p := ⟨b1, 1, none⟩) (by first | (simp; done) | (simp; omega) | (dsimp only; omega))).trans (c := some (.int .u64 5)) (by first | assumption | (simp [go_sem, c1, z0]; done)); have z0 : b1 < w9.heap.size := (by first | (have := hb.size; simp at this; omega) | (have := hb.size; omega)); have hB := Below.trans (B := w.heap.size) (a := w) (b := _) (c := w9) (by first | assumption | exact (by repeat (first | assumption | exact Below.refl _ _ | refine Below.setCell ?_ (by first | omega | (simp; done) | (simp; omega)) _ | refine below_drewN ?_ _ | refine Below.drew ?_ | refine Below.alloc ?_ (by first | omega | (simp; done) | (simp; omega)) _ | refine Below.trans ?_ (Below.mono (by assumption) (by first | omega | (simp; done) | (simp; omega)))))) (hb.mono (by first | (simp; done) | (simp; omega) | (have := Below.size (by assumption); omega) | omega)); have hs9 := hB.size; clear hb))
  clear c0 c1 z0
  go_wp2_with fail
  refine (k_sum1 _ _ (fun k hk => by match k, hk with | 0, _ => simp [go_sem] | 1, _ => simp [go_sem] | 2, _ => simp [go_sem] | 3, _ => simp [go_sem]) (by simp)).mono ?_
  rintro e v1 ⟨rfl, hb⟩
  have hv1 : Below w.heap.size w v1 := (by repeat (first | assumption | exact Below.refl _ _ | refine Below.setCell ?_ (by first | omega | (simp; done) | (simp; omega)) _ | refine below_drewN ?_ _ | refine Below.drew ?_ | refine Below.alloc ?_ (by first | omega | (simp; done) | (simp; omega)) _ | refine Below.trans ?_ (Below.mono (by assumption) (by first | omega | (simp; done) | (simp; omega)))))
  have hs3 := hv1.size
  clear hb
  go_wp2_with fail
  refine (k_sum2 _ _ (by simp [go_sem]) (by simp [go_sem]) (by simp)).mono ?_
  rintro e v2 ⟨rfl, hb⟩
  have c0 := (hb.cell (p := ⟨v1.heap.size, 0, none⟩) (by simp; omega)).trans (c := some (.int .u64 1)) (by simp [go_sem])
  have c1 := (hb.cell (p := ⟨v1.heap.size, 1, none⟩) (by simp; omega)).trans (c := some (.int .u64 0)) (by simp [go_sem])
  have hz := hb.size
  simp only [World.size_alloc] at hz
  have z0 : v1.heap.size < v2.heap.size := by omega
  have hB3 : Below w.heap.size w v2 := (by repeat (first | assumption | exact Below.refl _ _ | refine Below.setCell ?_ (by first | omega | (simp; done) | (simp; omega)) _ | refine below_drewN ?_ _ | refine Below.drew ?_ | refine Below.alloc ?_ (by first | omega | (simp; done) | (simp; omega)) _ | refine Below.trans ?_ (Below.mono (by assumption) (by first | omega | (simp; done) | (simp; omega)))))
  have hs4 := hB3.size
  clear hb hz
  obtain ⟨b6, hb6⟩ : ∃ b6, b6 = v1.heap.size := ⟨_, rfl⟩
  rw [← hb6] at c0 c1 z0 ⊢
  clear hb6 hv1 hs3
  go_wp2_with fail
  go_region_held3 (fun w' => w'.cell? ⟨b6, 0, none⟩ = some (.int .u64 1) ∧ w'.cell? ⟨b6, 1, none⟩ = some (.int .u64 0) ∧ b6 < w'.heap.size ∧ Below w.heap.size w w')
    (first
      | exact ⟨c0, c1, z0, hB⟩
      | exact ⟨by simp [go_sem, c0, z0], by simp [go_sem, c1, z0], by simp; omega, (by repeat (first | assumption | exact Below.refl _ _ | refine Below.setCell ?_ (by first | omega | (simp; done) | (simp; omega)) _ | refine below_drewN ?_ _ | refine Below.drew ?_ | refine Below.alloc ?_ (by first | omega | (simp; done) | (simp; omega)) _ | refine Below.trans ?_ (Below.mono (by assumption) (by first | omega | (simp; done) | (simp; omega)))))⟩)
    (first
      | (go_at_call 31; refine (low_any _ _).mono ?_; rintro e w9 ⟨rfl, hb⟩; have c0 := (hb.cell (p := ⟨b6, 0, none⟩) (by first | (simp; done) | (simp; omega) | (dsimp only; omega))).trans (c := some (.int .u64 1)) (by first | assumption | (simp [go_sem, c0, z0]; done)); have c1 := (hb.cell (p := ⟨b6, 1, none⟩) (by first | (simp; done) | (simp; omega) | (dsimp only; omega))).trans (c := some (.int .u64 0)) (by first | assumption | (simp [go_sem, c1, z0]; done)); have z0 : b6 < w9.heap.size := (by first | (have := hb.size; simp at this; omega) | (have := hb.size; omega)); have hB := Below.trans (B := w.heap.size) (a := w) (b := _) (c := w9) (by first | assumption | exact (by repeat (first | assumption | exact Below.refl _ _ | refine Below.setCell ?_ (by first | omega | (simp; done) | (simp; omega)) _ | refine below_drewN ?_ _ | refine Below.drew ?_ | refine Below.alloc ?_ (by first | omega | (simp; done) | (simp; omega)) _ | refine Below.trans ?_ (Below.mono (by assumption) (by first | omega | (simp; done) | (simp; omega)))))) (hb.mono (by first | (simp; done) | (simp; omega) | (have := Below.size (by assumption); omega) | omega)); have hs9 := hB.size; clear hb)
      | (go_at_call 35; refine (high_any _ _).mono ?_; rintro e w9 ⟨rfl, hb⟩; have c0 := (hb.cell (p := ⟨b6, 0, none⟩) (by first | (simp; done) | (simp; omega) | (dsimp only; omega))).trans (c := some (.int .u64 1)) (by first | assumption | (simp [go_sem, c0, z0]; done)); have c1 := (hb.cell (p := ⟨b6, 1, none⟩) (by first | (simp; done) | (simp; omega) | (dsimp only; omega))).trans (c := some (.int .u64 0)) (by first | assumption | (simp [go_sem, c1, z0]; done)); have z0 : b6 < w9.heap.size := (by first | (have := hb.size; simp at this; omega) | (have := hb.size; omega)); have hB := Below.trans (B := w.heap.size) (a := w) (b := _) (c := w9) (by first | assumption | exact (by repeat (first | assumption | exact Below.refl _ _ | refine Below.setCell ?_ (by first | omega | (simp; done) | (simp; omega)) _ | refine below_drewN ?_ _ | refine Below.drew ?_ | refine Below.alloc ?_ (by first | omega | (simp; done) | (simp; omega)) _ | refine Below.trans ?_ (Below.mono (by assumption) (by first | omega | (simp; done) | (simp; omega)))))) (hb.mono (by first | (simp; done) | (simp; omega) | (have := Below.size (by assumption); omega) | omega)); have hs9 := hB.size; clear hb)
      | (go_at_call_of 22 (Value.int .u64 9223372036854775808); refine (k_clamp1 _).mono ?_; rintro e w9 ⟨rfl, hb⟩; have c0 := (hb.cell (p := ⟨b6, 0, none⟩) (by first | (simp; done) | (simp; omega) | (dsimp only; omega))).trans (c := some (.int .u64 1)) (by first | assumption | (simp [go_sem, c0, z0]; done)); have c1 := (hb.cell (p := ⟨b6, 1, none⟩) (by first | (simp; done) | (simp; omega) | (dsimp only; omega))).trans (c := some (.int .u64 0)) (by first | assumption | (simp [go_sem, c1, z0]; done)); have z0 : b6 < w9.heap.size := (by first | (have := hb.size; simp at this; omega) | (have := hb.size; omega)); have hB := Below.trans (B := w.heap.size) (a := w) (b := _) (c := w9) (by first | assumption | exact (by repeat (first | assumption | exact Below.refl _ _ | refine Below.setCell ?_ (by first | omega | (simp; done) | (simp; omega)) _ | refine below_drewN ?_ _ | refine Below.drew ?_ | refine Below.alloc ?_ (by first | omega | (simp; done) | (simp; omega)) _ | refine Below.trans ?_ (Below.mono (by assumption) (by first | omega | (simp; done) | (simp; omega)))))) (hb.mono (by first | (simp; done) | (simp; omega) | (have := Below.size (by assumption); omega) | omega)); have hs9 := hB.size; clear hb)
      | (go_at_call_of 22 (Value.int .u64 7); refine (k_clamp2 _).mono ?_; rintro e w9 ⟨rfl, hb⟩; have c0 := (hb.cell (p := ⟨b6, 0, none⟩) (by first | (simp; done) | (simp; omega) | (dsimp only; omega))).trans (c := some (.int .u64 1)) (by first | assumption | (simp [go_sem, c0, z0]; done)); have c1 := (hb.cell (p := ⟨b6, 1, none⟩) (by first | (simp; done) | (simp; omega) | (dsimp only; omega))).trans (c := some (.int .u64 0)) (by first | assumption | (simp [go_sem, c1, z0]; done)); have z0 : b6 < w9.heap.size := (by first | (have := hb.size; simp at this; omega) | (have := hb.size; omega)); have hB := Below.trans (B := w.heap.size) (a := w) (b := _) (c := w9) (by first | assumption | exact (by repeat (first | assumption | exact Below.refl _ _ | refine Below.setCell ?_ (by first | omega | (simp; done) | (simp; omega)) _ | refine below_drewN ?_ _ | refine Below.drew ?_ | refine Below.alloc ?_ (by first | omega | (simp; done) | (simp; omega)) _ | refine Below.trans ?_ (Below.mono (by assumption) (by first | omega | (simp; done) | (simp; omega)))))) (hb.mono (by first | (simp; done) | (simp; omega) | (have := Below.size (by assumption); omega) | omega)); have hs9 := hB.size; clear hb))
  clear c0 c1 z0
  go_wp2_with (first
    | (go_at_call 31; refine (low_any _ _).mono ?_; rintro e w9 ⟨rfl, hb⟩; have hB := chain hB hb; clear hb)
    | (go_at_call 35; refine (high_any _ _).mono ?_; rintro e w9 ⟨rfl, hb⟩; have hB := chain hB hb; clear hb)
    | (go_at_call 33; refine (most_any _).mono ?_; rintro e w9 ⟨rfl, hb⟩; have hB := chain hB hb; clear hb)
    | (go_at_call 25; refine (k_more0 _).mono ?_; rintro e w9 ⟨rfl, hb⟩; have hB := chain hB hb; clear hb)
    | (go_at_call_of 36 (Value.int .u64 18446744073709551615); refine (k_more1 _).mono ?_; rintro e w9 ⟨rfl, hb⟩; have hB := chain hB hb; clear hb)
    | (go_at_call_of 36 (Value.int .u64 9223372036854775808); refine (k_more2 _).mono ?_; rintro e w9 ⟨rfl, hb⟩; have hB := chain hB hb; clear hb)
    | (go_at_call_of 36 (Value.int .i64 5); refine (k_more3 _).mono ?_; rintro e w9 ⟨rfl, hb⟩; have hB := chain hB hb; clear hb)
    | (go_at_call 10; refine (awake_any _).mono ?_; rintro e w9 ⟨rfl, hb⟩; have hB := chain hB hb; clear hb)
    | (go_at_call 29; refine (k_text0 _).mono ?_; rintro e w9 ⟨rfl, hb⟩; have hB := chain hB hb; clear hb)
    | (go_at_call_of 37 (Value.int .i64 3); refine (k_reads1 _).mono ?_; rintro e w9 ⟨rfl, hb⟩; have hB := chain hB hb; clear hb)
    | (go_at_call_of 37 (Value.int .i64 6); refine (k_reads3 _).mono ?_; rintro e w9 ⟨rfl, hb⟩; have hB := chain hB hb; clear hb)
    | (go_at_call_of 37 (Value.int .i64 1); refine (k_reads4 _).mono ?_; rintro e w9 ⟨rfl, hb⟩; have hB := chain hB hb; clear hb)
    | (go_at_call_of 37 (Value.int .i64 5); refine (k_reads2 _).mono ?_; rintro e w9 ⟨rfl, hb⟩; have hB := chain hB hb; clear hb))
  go_ret
  exact ⟨rfl, hB⟩

end WideK
end Go.Proofs.Ytefbgienbgcchaa
