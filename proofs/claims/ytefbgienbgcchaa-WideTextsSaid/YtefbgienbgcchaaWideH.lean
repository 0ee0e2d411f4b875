/-
  What layer 1's statements ask of the examples: awake.
-/
import Derived.Test.YtefbgienbgcchaaWideG
namespace Go.Proofs.Ytefbgienbgcchaa
open Go.RowKit Go.Shelf
namespace WideH
open WideA WideB WideT WideI WideF WideG

theorem chain {w W W' : World} (h : Below w.heap.size w W) (k : Below W.heap.size W W') : Below w.heap.size w W' := h.trans (k.mono h.size)

set_option maxHeartbeats 400000 in
theorem low_any (n : Int) (w : World) :
    Calls Try.prog 31 #[.int .u64 n] w fun e w' => e = .returned (.agg #[.int .u64 0, .int .u64 n]) ∧ Below w.heap.size w w' := by
  go_enter Try.func31, Try.ntmps31
  go_wp2
  exact bodyPost_ret (v := .agg #[.int .u64 0, .int .u64 n]) (by simp [results, Try.results31, go_sem]) rfl ⟨rfl, (by repeat (first | assumption | exact Below.refl _ _ | refine Below.setCell ?_ (by first | omega | (simp; done) | (simp; omega)) _ | refine below_drewN ?_ _ | refine Below.drew ?_ | refine Below.alloc ?_ (by first | omega | (simp; done) | (simp; omega)) _ | refine Below.trans ?_ (Below.mono (by assumption) (by first | omega | (simp; done) | (simp; omega)))))⟩
set_option maxHeartbeats 400000 in
theorem high_any (n : Int) (w : World) :
    Calls Try.prog 35 #[.int .u64 n] w fun e w' => e = .returned (.agg #[.int .u64 n, .int .u64 0]) ∧ Below w.heap.size w w' := by
  go_enter Try.func35, Try.ntmps35
  go_wp2
  exact bodyPost_ret (v := .agg #[.int .u64 n, .int .u64 0]) (by simp [results, Try.results35, go_sem]) rfl ⟨rfl, (by repeat (first | assumption | exact Below.refl _ _ | refine Below.setCell ?_ (by first | omega | (simp; done) | (simp; omega)) _ | refine below_drewN ?_ _ | refine Below.drew ?_ | refine Below.alloc ?_ (by first | omega | (simp; done) | (simp; omega)) _ | refine Below.trans ?_ (Below.mono (by assumption) (by first | omega | (simp; done) | (simp; omega)))))⟩
set_option maxHeartbeats 400000 in
theorem most_any (w : World) :
    Calls Try.prog 33 #[] w fun e w' => e = .returned (.agg #[.int .u64 18446744073709551615, .int .u64 18446744073709551615]) ∧ Below w.heap.size w w' := by
  go_enter Try.func33, Try.ntmps33
  go_wp2
  exact bodyPost_ret (v := .agg #[.int .u64 18446744073709551615, .int .u64 18446744073709551615]) (by simp [results, Try.results33, go_sem]) rfl ⟨rfl, (by repeat (first | assumption | exact Below.refl _ _ | refine Below.setCell ?_ (by first | omega | (simp; done) | (simp; omega)) _ | refine below_drewN ?_ _ | refine Below.drew ?_ | refine Below.alloc ?_ (by first | omega | (simp; done) | (simp; omega)) _ | refine Below.trans ?_ (Below.mono (by assumption) (by first | omega | (simp; done) | (simp; omega)))))⟩

set_option maxHeartbeats 400000 in
theorem plus_true (ah al bh bl x y z : Int) (w : World) (ahl : 0 ≤ ah) (ahu : ah < 18446744073709551616) (all : 0 ≤ al) (alu : al < 18446744073709551616) (bhl : 0 ≤ bh) (bhu : bh < 18446744073709551616) (bll : 0 ≤ bl) (blu : bl < 18446744073709551616) (hr : wRes (ah * 18446744073709551616 + al + (bh * 18446744073709551616 + bl)) = .tuple #[.agg #[.int .u64 x, .int .u64 y], .int .i64 z]) :
    Calls Try.prog 32 #[.agg #[.int .u64 ah, .int .u64 al], .agg #[.int .u64 bh, .int .u64 bl], .agg #[.int .u64 x, .int .u64 y], .int .i64 z] w fun e w' => e = .returned (.bool true) ∧ Below w.heap.size w w' := by
  have C := fun W => plus_any ah al bh bl W ahl ahu all alu bhl bhu bll blu
  rw [hr] at C
  have H := hide C
  have t0 : (x == x) = true := by simp
  have t1 : (y == y) = true := by simp
  have t2 : (z == z) = true := by simp
  clear C hr
  go_enter Try.func32, Try.ntmps32
  go_wp2_with fail
  refine (H.out _).mono ?_
  rintro e w1 ⟨rfl, hb⟩
  have hz := hb.size
  simp only [World.size_alloc] at hz
  have c0 := (hb.cell (p := ⟨w.heap.size + 1 + 1, 0, none⟩) (by simp)).trans (c := some (.int .u64 x)) (by simp [go_sem])
  have c1 := (hb.cell (p := ⟨w.heap.size + 1 + 1, 1, none⟩) (by simp)).trans (c := some (.int .u64 y)) (by simp [go_sem])
  have hB : Below w.heap.size w w1 := (by repeat (first | assumption | exact Below.refl _ _ | refine Below.setCell ?_ (by first | omega | (simp; done) | (simp; omega)) _ | refine below_drewN ?_ _ | refine Below.drew ?_ | refine Below.alloc ?_ (by first | omega | (simp; done) | (simp; omega)) _ | refine Below.trans ?_ (Below.mono (by assumption) (by first | omega | (simp; done) | (simp; omega)))))
  clear hb
  have hz1 : w.heap.size + 1 + 1 < w1.heap.size := by omega
  go_wp2
  go_ret
  exact ⟨rfl, (by repeat (first | assumption | exact Below.refl _ _ | refine Below.setCell ?_ (by first | omega | (simp; done) | (simp; omega)) _ | refine below_drewN ?_ _ | refine Below.drew ?_ | refine Below.alloc ?_ (by first | omega | (simp; done) | (simp; omega)) _ | refine Below.trans ?_ (Below.mono (by assumption) (by first | omega | (simp; done) | (simp; omega)))))⟩

set_option maxHeartbeats 400000 in
theorem times_true (ah al n x y z : Int) (w : World) (hr : ∀ W, Calls Try.prog 16 #[.agg #[.int .u64 ah, .int .u64 al], .int .i64 n] W fun e w' => e = .returned (.tuple #[.agg #[.int .u64 x, .int .u64 y], .int .i64 z]) ∧ Below W.heap.size W w') :
    Calls Try.prog 34 #[.agg #[.int .u64 ah, .int .u64 al], .int .i64 n, .agg #[.int .u64 x, .int .u64 y], .int .i64 z] w fun e w' => e = .returned (.bool true) ∧ Below w.heap.size w w' := by
  have H := hide hr
  have t0 : (x == x) = true := by simp
  have t1 : (y == y) = true := by simp
  have t2 : (z == z) = true := by simp
  clear hr
  go_enter Try.func34, Try.ntmps34
  go_wp2_with fail
  refine (H.out _).mono ?_
  rintro e w1 ⟨rfl, hb⟩
  have hz := hb.size
  simp only [World.size_alloc] at hz
  have c0 := (hb.cell (p := ⟨w.heap.size + 1, 0, none⟩) (by simp)).trans (c := some (.int .u64 x)) (by simp [go_sem])
  have c1 := (hb.cell (p := ⟨w.heap.size + 1, 1, none⟩) (by simp)).trans (c := some (.int .u64 y)) (by simp [go_sem])
  have hB : Below w.heap.size w w1 := (by repeat (first | assumption | exact Below.refl _ _ | refine Below.setCell ?_ (by first | omega | (simp; done) | (simp; omega)) _ | refine below_drewN ?_ _ | refine Below.drew ?_ | refine Below.alloc ?_ (by first | omega | (simp; done) | (simp; omega)) _ | refine Below.trans ?_ (Below.mono (by assumption) (by first | omega | (simp; done) | (simp; omega)))))
  clear hb
  have hz1 : w.heap.size + 1 < w1.heap.size := by omega
  go_wp2
  go_ret
  exact ⟨rfl, (by repeat (first | assumption | exact Below.refl _ _ | refine Below.setCell ?_ (by first | omega | (simp; done) | (simp; omega)) _ | refine below_drewN ?_ _ | refine Below.drew ?_ | refine Below.alloc ?_ (by first | omega | (simp; done) | (simp; omega)) _ | refine Below.trans ?_ (Below.mono (by assumption) (by first | omega | (simp; done) | (simp; omega)))))⟩

set_option maxHeartbeats 400000 in
theorem more_true (ah al n bh bl m : Int) (v : Bool) (w : World) (ahl : 0 ≤ ah) (ahu : ah < 18446744073709551616) (all : 0 ≤ al) (alu : al < 18446744073709551616) (bhl : 0 ≤ bh) (bhu : bh < 18446744073709551616) (bll : 0 ≤ bl) (blu : bl < 18446744073709551616) (nl : 0 ≤ n) (nu : n ≤ 9223372036854775807) (ml : 0 ≤ m) (mu : m ≤ 9223372036854775807) (hv : v = decide ((bh * 18446744073709551616 + bl) * m < (ah * 18446744073709551616 + al) * n)) :
    Calls Try.prog 36 #[.agg #[.int .u64 ah, .int .u64 al], .int .i64 n, .agg #[.int .u64 bh, .int .u64 bl], .int .i64 m, .bool v] w fun e w' => e = .returned (.bool true) ∧ Below w.heap.size w w' := by
  have C := fun W => more_any ah al n bh bl m W ahl ahu all alu bhl bhu bll blu nl nu ml mu
  rw [← hv] at C
  have H := hide C
  have t0 : (v == v) = true := by simp
  clear C hv
  go_enter Try.func36, Try.ntmps36
  go_wp2_with fail
  refine (H.out _).mono ?_
  rintro e w1 ⟨rfl, hb⟩
  have hB : Below w.heap.size w w1 := (by repeat (first | assumption | exact Below.refl _ _ | refine Below.setCell ?_ (by first | omega | (simp; done) | (simp; omega)) _ | refine below_drewN ?_ _ | refine Below.drew ?_ | refine Below.alloc ?_ (by first | omega | (simp; done) | (simp; omega)) _ | refine Below.trans ?_ (Below.mono (by assumption) (by first | omega | (simp; done) | (simp; omega)))))
  clear hb
  go_wp2
  go_ret
  exact ⟨rfl, (by repeat (first | assumption | exact Below.refl _ _ | refine Below.setCell ?_ (by first | omega | (simp; done) | (simp; omega)) _ | refine below_drewN ?_ _ | refine Below.drew ?_ | refine Below.alloc ?_ (by first | omega | (simp; done) | (simp; omega)) _ | refine Below.trans ?_ (Below.mono (by assumption) (by first | omega | (simp; done) | (simp; omega)))))⟩

set_option maxHeartbeats 400000 in
theorem reads_true (s : ByteArray) (x y z k : Int) (w : World) (hs : s.size ≤ 9223372036854775807) (hr : readRes (nums s) = .tuple #[.agg #[.int .u64 x, .int .u64 y], .agg #[.int .i64 z, .int .i64 k]]) :
    Calls Try.prog 37 #[.string s, .agg #[.int .u64 x, .int .u64 y], .int .i64 z, .int .i64 k] w fun e w' => e = .returned (.bool true) ∧ Below w.heap.size w w' := by
  have C := fun W => read_any s W hs
  rw [hr] at C
  have H := hide C
  have t0 : (x == x) = true := by simp
  have t1 : (y == y) = true := by simp
  have t2 : (z == z) = true := by simp
  have t3 : (k == k) = true := by simp
  clear C hr
  go_enter Try.func37, Try.ntmps37
  go_wp2_with fail
  refine (H.out _).mono ?_
  rintro e w1 ⟨rfl, hb⟩
  have hz := hb.size
  simp only [World.size_alloc] at hz
  have c0 := (hb.cell (p := ⟨w.heap.size, 0, none⟩) (by simp)).trans (c := some (.int .u64 x)) (by simp [go_sem])
  have c1 := (hb.cell (p := ⟨w.heap.size, 1, none⟩) (by simp)).trans (c := some (.int .u64 y)) (by simp [go_sem])
  have hB : Below w.heap.size w w1 := (by repeat (first | assumption | exact Below.refl _ _ | refine Below.setCell ?_ (by first | omega | (simp; done) | (simp; omega)) _ | refine below_drewN ?_ _ | refine Below.drew ?_ | refine Below.alloc ?_ (by first | omega | (simp; done) | (simp; omega)) _ | refine Below.trans ?_ (Below.mono (by assumption) (by first | omega | (simp; done) | (simp; omega)))))
  clear hb
  have hz1 : w.heap.size < w1.heap.size := by omega
  have hz2 : w.heap.size < w1.heap.size + 1 := by omega
  go_wp2
  go_ret
  exact ⟨rfl, (by repeat (first | assumption | exact Below.refl _ _ | refine Below.setCell ?_ (by first | omega | (simp; done) | (simp; omega)) _ | refine below_drewN ?_ _ | refine Below.drew ?_ | refine Below.alloc ?_ (by first | omega | (simp; done) | (simp; omega)) _ | refine Below.trans ?_ (Below.mono (by assumption) (by first | omega | (simp; done) | (simp; omega)))))⟩

theorem text_most (w : World) :
    Calls Try.prog 29 #[.agg #[.int .u64 18446744073709551615, .int .u64 18446744073709551615]] w fun e w' => e = .returned (.string ⟨#[51, 52, 48, 50, 56, 50, 51, 54, 54, 57, 50, 48, 57, 51, 56, 52, 54, 51, 52, 54, 51, 51, 55, 52, 54, 48, 55, 52, 51, 49, 55, 54, 56, 50, 49, 49, 52, 53, 53]⟩) ∧ Below w.heap.size w w' := by
  have C := text_any 18446744073709551615 18446744073709551615 w (by decide) (by decide) (by decide) (by decide)
  have e : textOf (18446744073709551615 * 18446744073709551616 + 18446744073709551615) = ⟨#[51, 52, 48, 50, 56, 50, 51, 54, 54, 57, 50, 48, 57, 51, 56, 52, 54, 51, 52, 54, 51, 51, 55, 52, 54, 48, 55, 52, 51, 49, 55, 54, 56, 50, 49, 49, 52, 53, 53]⟩ := by kernel_rfl
  rw [e] at C
  exact C

theorem cmp_one (w : World) : Calls Try.prog 20 #[.agg #[.int .u64 1, .int .u64 0], .agg #[.int .u64 0, .int .u64 18446744073709551615]] w fun e w' => e = .returned (.int .i64 1) ∧ Below w.heap.size w w' := by
  have C := wcmp_any 1 0 0 18446744073709551615 w (by decide) (by decide) (by decide) (by decide)
  have e : cmpI (1 * 18446744073709551616 + 0) (0 * 18446744073709551616 + 18446744073709551615) = 1 := by decide
  rw [e] at C
  exact C

theorem awake_plus (w : World) : Calls Try.prog 32 #[.agg #[.int .u64 18446744073709551615, .int .u64 18446744073709551615], .agg #[.int .u64 0, .int .u64 0], .agg #[.int .u64 18446744073709551615, .int .u64 18446744073709551615], .int .i64 0] w fun e w' => e = .returned (.bool true) ∧ Below w.heap.size w w' :=
  plus_true _ _ _ _ _ _ _ w (by decide) (by decide) (by decide) (by decide) (by decide) (by decide) (by decide) (by decide) (by kernel_rfl)
theorem awake_times (w : World) : Calls Try.prog 34 #[.agg #[.int .u64 1, .int .u64 0], .int .i64 5, .agg #[.int .u64 5, .int .u64 0], .int .i64 0] w fun e w' => e = .returned (.bool true) ∧ Below w.heap.size w w' :=
  times_true _ _ _ _ _ _ w (fun W => by
    have C := times_any 1 0 5 W (by decide) (by decide) (by decide) (by decide) (by decide) (by decide)
    have e : wRes ((1 * 18446744073709551616 + 0) * 5) = .tuple #[.agg #[.int .u64 5, .int .u64 0], .int .i64 0] := by kernel_rfl
    rw [e] at C
    exact C)
theorem awake_more (w : World) : Calls Try.prog 36 #[.agg #[.int .u64 18446744073709551615, .int .u64 18446744073709551615], .int .i64 3, .agg #[.int .u64 18446744073709551615, .int .u64 18446744073709551615], .int .i64 2, .bool true] w fun e w' => e = .returned (.bool true) ∧ Below w.heap.size w w' :=
  more_true _ _ _ _ _ _ _ w (by decide) (by decide) (by decide) (by decide) (by decide) (by decide) (by decide) (by decide) (by decide) (by decide) (by decide) (by decide) (by decide)
theorem awake_reads (w : World) : Calls Try.prog 37 #[.string ⟨#[48]⟩, .agg #[.int .u64 0, .int .u64 0], .int .i64 0, .int .i64 0] w fun e w' => e = .returned (.bool true) ∧ Below w.heap.size w w' :=
  reads_true _ _ _ _ _ w (by decide) (by kernel_rfl)

set_option maxHeartbeats 400000 in
theorem awake_any (w : World) : Calls Try.prog 10 #[] w fun e w' => e = .returned (.bool true) ∧ Below w.heap.size w w' := by
  have hB := Below.refl w.heap.size w
  go_enter Try.func10, Try.ntmps10
  go_wp2_with (first
    | (go_at_call 31; refine (low_any _ _).mono ?_; rintro e w1 ⟨rfl, hb⟩; have hB := chain hB hb; clear hb)
    | (go_at_call 35; refine (high_any _ _).mono ?_; rintro e w1 ⟨rfl, hb⟩; have hB := chain hB hb; clear hb)
    | (go_at_call 33; refine (most_any _).mono ?_; rintro e w1 ⟨rfl, hb⟩; have hB := chain hB hb; clear hb)
    | (go_at_call 32; refine (awake_plus _).mono ?_; rintro e w1 ⟨rfl, hb⟩; have hB := chain hB hb; clear hb)
    | (go_at_call 34; refine (awake_times _).mono ?_; rintro e w1 ⟨rfl, hb⟩; have hB := chain hB hb; clear hb)
    | (go_at_call 36; refine (awake_more _).mono ?_; rintro e w1 ⟨rfl, hb⟩; have hB := chain hB hb; clear hb)
    | (go_at_call 29; refine (text_most _).mono ?_; rintro e w1 ⟨rfl, hb⟩; have hB := chain hB hb; clear hb)
    | (go_at_call 37; refine (awake_reads _).mono ?_; rintro e w1 ⟨rfl, hb⟩; have hB := chain hB hb; clear hb)
    | (go_at_call 20; refine (cmp_one _).mono ?_; rintro e w1 ⟨rfl, hb⟩; have hB := chain hB hb; clear hb))
  go_ret
  exact ⟨rfl, hB⟩

end WideH
end Go.Proofs.Ytefbgienbgcchaa
