/-
  Products of a wide and an int, what a number is as a wide, and how two wides stand: wide.product, Times, Of, Cmp, Clamp, above, More.
-/
import Derived.Test.YtackcnncjeajpaaWideA
import Derived.Shelf.Bits.Mul64
namespace Go.Proofs.Ytackcnncjeajpaa
open Go.RowKit Go.Shelf
namespace WideB
open WideA

set_option maxHeartbeats 400000 in
/-- math/bits.Mul64, over integers. -/
theorem mul64 (x y : Int) (xl : 0 ≤ x) (xu : x < 18446744073709551616) (yl : 0 ≤ y) (yu : y < 18446744073709551616) (w : World) :
    Calls Try.prog 191 #[.int .u64 x, .int .u64 y] w fun e w' => e = .returned (.tuple #[.int .u64 (x * y / 18446744073709551616), .int .u64 (x * y % 18446744073709551616)]) ∧ w' = w := by
  obtain ⟨x, rfl⟩ := Int.eq_ofNat_of_zero_le xl
  obtain ⟨y, rfl⟩ := Int.eq_ofNat_of_zero_le yl
  have hx : x < 18446744073709551616 := by omega
  have hy : y < 18446744073709551616 := by omega
  have key : Calls Try.prog 191 #[.int .u64 (x : Int), .int .u64 (y : Int)] w fun e w' => e = .returned (.tuple #[.int .u64 ((x * y / 18446744073709551616 : Nat) : Int), .int .u64 ((x * y % 18446744073709551616 : Nat) : Int)]) ∧ w' = w := by
    obtain ⟨bd, bt, bw, hhi⟩ := Lib.mul64_hi x y hx hy
    have ba := Lib.half_mul_le (a := x / 4294967296) (b := y / 4294967296) (by omega) (by omega)
    have bb := Lib.half_mul_le (a := x / 4294967296) (b := y % 4294967296) (by omega) (by omega)
    have bc := Lib.half_mul_le (a := x % 4294967296) (b := y / 4294967296) (by omega) (by omega)
    have ba' : x / 4294967296 * (y / 4294967296) < 18446744073709551616 := by omega
    have bb' : x / 4294967296 * (y % 4294967296) < 18446744073709551616 := by omega
    have bc' : x % 4294967296 * (y / 4294967296) < 18446744073709551616 := by omega
    have bh1 : x / 4294967296 * (y / 4294967296) + (x / 4294967296 * (y % 4294967296) + x % 4294967296 * (y % 4294967296) / 4294967296) / 4294967296 < 18446744073709551616 := by omega
    have bh : x / 4294967296 * (y / 4294967296) + (x / 4294967296 * (y % 4294967296) + x % 4294967296 * (y % 4294967296) / 4294967296) / 4294967296 + ((x / 4294967296 * (y % 4294967296) + x % 4294967296 * (y % 4294967296) / 4294967296) % 4294967296 + x % 4294967296 * (y / 4294967296)) / 4294967296 < 18446744073709551616 := by omega
    go_enter Try.func191, Try.ntmps191
    go_wp2
    simp only [Mul64.maskN x hx, Mul64.maskN y hy, Mul64.divN, Mul64.mulN, Mul64.addN, Mul64.wrapN _ bd, Mul64.wrapN _ bb', Mul64.wrapN _ bt, Mul64.maskN _ bt, Mul64.wrapN _ bc', Mul64.wrapN _ bw, Mul64.wrapN _ ba', Mul64.wrapN _ bh1, Mul64.wrapN _ bh, Mul64.wrapM (x * y)]
    rw [hhi]
    go_ret2
    exact ⟨rfl, rfl⟩
  refine key.mono ?_
  rintro e w' ⟨rfl, rfl⟩
  exact ⟨by congr 5 <;> simp, rfl⟩

theorem mul_bound {x y : Int} (xl : 0 ≤ x) (xu : x < 18446744073709551616) (yl : 0 ≤ y) (yu : y < 18446744073709551616) : 0 ≤ x * y ∧ x * y ≤ 18446744073709551615 * 18446744073709551615 := by
  refine ⟨Int.mul_nonneg xl yl, ?_⟩
  exact Int.le_trans (Int.mul_le_mul_of_nonneg_right (show x ≤ 18446744073709551615 by omega) yl) (Int.mul_le_mul_of_nonneg_left (show y ≤ 18446744073709551615 by omega) (by decide))

/-- The three words of a product. -/
def prod3 (N : Int) : Value := .agg #[.int .u64 (N % 18446744073709551616), .int .u64 (N / 18446744073709551616 % 18446744073709551616), .int .u64 (N / 340282366920938463463374607431768211456)]

set_option maxHeartbeats 400000 in
/-- wide.product: all 192 bits of it. -/
theorem product_any (hi lo n : Int) (w : World) (hil : 0 ≤ hi) (hiu : hi < 18446744073709551616) (lol : 0 ≤ lo) (lou : lo < 18446744073709551616) (nl : 0 ≤ n) (nu : n < 18446744073709551616) :
    Calls Try.prog 157 #[.agg #[.int .u64 hi, .int .u64 lo], .int .u64 n] w fun e w' =>
      e = .returned (prod3 ((hi * 18446744073709551616 + lo) * n)) ∧ Below w.heap.size w w' := by
  have m0 := mul64 lo n lol lou nl nu
  have m1 := mul64 hi n hil hiu nl nu
  have q0 := mul_bound lol lou nl nu
  have q1 := mul_bound hil hiu nl nu
  have hN : (hi * 18446744073709551616 + lo) * n = hi * n * 18446744073709551616 + lo * n := by rw [Int.add_mul, Int.mul_right_comm]
  rw [hN]
  generalize hi * n = p at *
  generalize lo * n = q at *
  obtain ⟨h0, e1⟩ : ∃ y, y = q / 18446744073709551616 := ⟨_, rfl⟩
  obtain ⟨l0, e2⟩ : ∃ y, y = q % 18446744073709551616 := ⟨_, rfl⟩
  obtain ⟨h1, e3⟩ : ∃ y, y = p / 18446744073709551616 := ⟨_, rfl⟩
  obtain ⟨l1, e4⟩ : ∃ y, y = p % 18446744073709551616 := ⟨_, rfl⟩
  obtain ⟨m, e5⟩ : ∃ y, y = (h0 + l1) % 18446744073709551616 := ⟨_, rfl⟩
  obtain ⟨c, e6⟩ : ∃ y, y = (0 + (h0 + l1) / 18446744073709551616) % 18446744073709551616 := ⟨_, rfl⟩
  obtain ⟨k, e7⟩ : ∃ y, y = c + h1 := ⟨_, rfl⟩
  have g0 : (p * 18446744073709551616 + q) % 18446744073709551616 = l0 := by omega
  have g1 : (p * 18446744073709551616 + q) / 18446744073709551616 % 18446744073709551616 = m := by omega
  have g2 : (p * 18446744073709551616 + q) / 340282366920938463463374607431768211456 = k := by omega
  unfold prod3
  rw [g0, g1, g2]
  rw [← e1, ← e2] at m0
  rw [← e3, ← e4] at m1
  have C0 := fun (W : World) (b : Nat) hb => add0_new W 169 b 0 hb 0 0 0 l0 l0 0 0 (by decide) (by decide) (by decide) (by decide) (by decide) (by decide) (by omega) (by omega) (by omega) (by omega) (by omega)
  have C1 := fun (W : World) (b n : Nat) hb => add1_new W 169 b n hb l0 0 0 h0 h0 0 (by decide) (by decide) (by decide) (by decide) (by omega) (by omega) (by omega) (by omega)
  have C2 := fun (W : World) (b n : Nat) hb => add1_new W 169 b n hb l0 h0 0 l1 m c (by omega) (by omega) (by decide) (by decide) (by omega) (by omega) e5 e6
  have C3 := fun (W : World) (b n : Nat) hb => add2_new W 169 b n hb l0 m c h1 k (by omega) (by omega) (by omega) (by omega) e7 (by omega)
  have H0 := hide C0
  have H1 := hide C1
  have H2 := hide C2
  have H3 := hide C3
  have M0 := hide m0
  have M1 := hide m1
  clear C0 C1 C2 C3 m0 m1 e1 e2 e3 e4 e5 e6 e7 g0 g1 g2 hN q0 q1
  have i0 : ∀ w, (Instr.index 205 (.agg #[.int .u64 lo, .int .u64 hi]) (.int .i64 0)).run Try.prog w = .ok (.int .u64 lo) w := fun _ => by kernel_rfl
  have i1 : ∀ w, (Instr.index 205 (.agg #[.int .u64 lo, .int .u64 hi]) (.int .i64 1)).run Try.prog w = .ok (.int .u64 hi) w := fun _ => by kernel_rfl
  go_enter Try.func157, Try.ntmps157
  go_wp2_with fail
  refine wp_loop_rounds 3 ?_; rw [rounds_succ]
  go_wp2_with fail
  refine (M0.out _).mono ?_
  rintro e w1 ⟨rfl, rfl⟩
  go_wp2_with fail
  refine (H0.out _ _ (by simp)).mono ?_
  rintro e w1 ⟨rfl, k0, rfl⟩
  go_wp2_with fail
  refine (H1.out _ _ _ (by simp)).mono ?_
  rintro e w1 ⟨rfl, k1, rfl⟩
  go_wp2_with fail
  rw [rounds_succ]
  go_wp2_with fail
  refine (M1.out _).mono ?_
  rintro e w1 ⟨rfl, hw1⟩
  subst hw1
  go_wp2_with fail
  refine (H2.out _ _ _ (by simp)).mono ?_
  rintro e w1 ⟨rfl, k2, rfl⟩
  go_wp2_with fail
  refine (H3.out _ _ _ (by simp)).mono ?_
  rintro e w1 ⟨rfl, k3, rfl⟩
  go_wp2_with fail
  rw [rounds_succ]
  go_wp2
  exact bodyPost_ret (v := .agg #[.int .u64 l0, .int .u64 m, .int .u64 k]) (by simp [results, Try.results157, go_sem]) rfl ⟨rfl, (by repeat (first | exact Below.refl _ _ | refine Below.setCell ?_ (by simp <;> omega) _ | refine below_drewN ?_ _ | refine Below.drew ?_ | refine Below.alloc ?_ (by simp <;> omega) _ | refine Below.trans ?_ (Below.mono (by assumption) (by simp <;> omega))))⟩

set_option maxHeartbeats 400000 in
/-- wide.Times. -/
theorem times_neg (hi lo n : Int) (w : World) (hn : n < 0) :
    Calls Try.prog 154 #[.agg #[.int .u64 hi, .int .u64 lo], .int .i64 n] w fun e w' =>
      e = .returned (.tuple #[.agg #[.int .u64 0, .int .u64 0], .int .i64 3]) ∧ Below w.heap.size w w' := by
  go_enter Try.func154, Try.ntmps154
  go_wp2
  exact bodyPost_ret (v := .tuple #[.agg #[.int .u64 0, .int .u64 0], .int .i64 3]) (by simp [results, Try.results154, go_sem]) rfl ⟨rfl, (by repeat (first | exact Below.refl _ _ | refine Below.setCell ?_ (by simp <;> omega) _ | refine below_drewN ?_ _ | refine Below.drew ?_ | refine Below.alloc ?_ (by simp <;> omega) _ | refine Below.trans ?_ (Below.mono (by assumption) (by simp <;> omega))))⟩

set_option maxHeartbeats 400000 in
theorem times_any (hi lo n : Int) (w : World) (hil : 0 ≤ hi) (hiu : hi < 18446744073709551616) (lol : 0 ≤ lo) (lou : lo < 18446744073709551616) (nl : 0 ≤ n) (nu : n ≤ 9223372036854775807) :
    Calls Try.prog 154 #[.agg #[.int .u64 hi, .int .u64 lo], .int .i64 n] w fun e w' =>
      e = .returned (wRes ((hi * 18446744073709551616 + lo) * n)) ∧ Below w.heap.size w w' := by
  have C := fun W => product_any hi lo n W hil hiu lol lou nl (by omega)
  have H := hide C
  clear C
  unfold wRes
  unfold prod3 at H
  generalize (hi * 18446744073709551616 + lo) * n = N at *
  generalize N % 18446744073709551616 = a at *
  generalize N / 18446744073709551616 % 18446744073709551616 = b at *
  generalize N / 340282366920938463463374607431768211456 = c at *
  go_enter Try.func154, Try.ntmps154
  go_wp2_with fail
  refine (H.out _).mono ?_
  rintro e w1 ⟨rfl, hb⟩
  go_wp2_with fail
  refine (wide_any _ _ _ _).mono ?_
  rintro e w2 ⟨rfl, hb2⟩
  have hb3 := hb.trans (hb2.mono hb.size)
  obtain ⟨hc, hf, hz⟩ := bcell hb3
  simp only [World.size_alloc] at hc hf hz
  clear hb hb2
  go_wp2
  exact bodyPost_ret (v := .tuple #[.agg #[.int .u64 (okN c b), .int .u64 (okN c a)], .int .i64 (errN c)]) (by simp [results, Try.results154, go_sem, hc]) rfl ⟨rfl, (by repeat (first | exact Below.refl _ _ | refine Below.setCell ?_ (by simp <;> omega) _ | refine below_drewN ?_ _ | refine Below.drew ?_ | refine Below.alloc ?_ (by simp <;> omega) _ | refine Below.trans ?_ (Below.mono (by assumption) (by simp <;> omega))))⟩

/-- Which of two numbers of three words is the greater one. -/
def abv (n0 n1 n2 m0 m1 m2 : Int) : Bool := decide (m0 + m1 * 18446744073709551616 + m2 * 340282366920938463463374607431768211456 < n0 + n1 * 18446744073709551616 + n2 * 340282366920938463463374607431768211456)

set_option maxHeartbeats 400000 in
theorem above_any (n0 n1 n2 m0 m1 m2 : Int) (w : World) (n0l : 0 ≤ n0) (n0u : n0 < 18446744073709551616) (n1l : 0 ≤ n1) (n1u : n1 < 18446744073709551616) (m0l : 0 ≤ m0) (m0u : m0 < 18446744073709551616) (m1l : 0 ≤ m1) (m1u : m1 < 18446744073709551616) :
    Calls Try.prog 158 #[.agg #[.int .u64 n0, .int .u64 n1, .int .u64 n2], .agg #[.int .u64 m0, .int .u64 m1, .int .u64 m2]] w fun e w' =>
      e = .returned (.bool (abv n0 n1 n2 m0 m1 m2)) ∧ Below w.heap.size w w' := by
  by_cases d2 : n2 = m2
  · by_cases d1 : n1 = m1
    · by_cases d0 : n0 = m0
      · have hv : abv n0 n1 n2 m0 m1 m2 = false := by unfold abv; simp; omega
        rw [hv]
        clear hv
        subst d2; subst d1; subst d0
        go_enter Try.func158, Try.ntmps158
        go_wp2
        refine wp_loop_rounds 4 ?_; rw [rounds_succ]
        go_wp2
        go_quiet (fail)
        go_wp2
        rw [rounds_succ]
        go_wp2
        go_quiet (fail)
        go_wp2
        rw [rounds_succ]
        go_wp2
        go_quiet (fail)
        go_wp2
        rw [rounds_succ]
        go_wp2
        go_ret
        exact ⟨rfl, (by repeat (first | exact Below.refl _ _ | refine Below.setCell ?_ (by simp <;> omega) _ | refine below_drewN ?_ _ | refine Below.drew ?_ | refine Below.alloc ?_ (by simp <;> omega) _ | refine Below.trans ?_ (Below.mono (by assumption) (by simp <;> omega))))⟩
      · have hv : abv n0 n1 n2 m0 m1 m2 = decide (m0 < n0) := by unfold abv; simp; omega
        rw [hv]
        have t0 : (n0 != m0) = true := by simp [d0]
        clear hv d0
        subst d2; subst d1
        go_enter Try.func158, Try.ntmps158
        go_wp2
        refine wp_loop_rounds 4 ?_; rw [rounds_succ]
        go_wp2
        go_quiet (fail)
        go_wp2
        rw [rounds_succ]
        go_wp2
        go_quiet (fail)
        go_wp2
        rw [rounds_succ]
        go_wp2
        go_quiet (fail)
        go_wp2
        go_quiet (fail)
        go_wp2
        go_ret
        exact ⟨rfl, (by repeat (first | exact Below.refl _ _ | refine Below.setCell ?_ (by simp <;> omega) _ | refine below_drewN ?_ _ | refine Below.drew ?_ | refine Below.alloc ?_ (by simp <;> omega) _ | refine Below.trans ?_ (Below.mono (by assumption) (by simp <;> omega))))⟩
    · have hv : abv n0 n1 n2 m0 m1 m2 = decide (m1 < n1) := by unfold abv; simp; omega
      rw [hv]
      have t0 : (n1 != m1) = true := by simp [d1]
      clear hv d1
      subst d2
      go_enter Try.func158, Try.ntmps158
      go_wp2
      refine wp_loop_rounds 4 ?_; rw [rounds_succ]
      go_wp2
      go_quiet (fail)
      go_wp2
      rw [rounds_succ]
      go_wp2
      go_quiet (fail)
      go_wp2
      go_quiet (fail)
      go_wp2
      go_ret
      exact ⟨rfl, (by repeat (first | exact Below.refl _ _ | refine Below.setCell ?_ (by simp <;> omega) _ | refine below_drewN ?_ _ | refine Below.drew ?_ | refine Below.alloc ?_ (by simp <;> omega) _ | refine Below.trans ?_ (Below.mono (by assumption) (by simp <;> omega))))⟩
  · have hv : abv n0 n1 n2 m0 m1 m2 = decide (m2 < n2) := by unfold abv; simp; omega
    rw [hv]
    have t0 : (n2 != m2) = true := by simp [d2]
    clear hv d2
    go_enter Try.func158, Try.ntmps158
    go_wp2
    refine wp_loop_rounds 4 ?_; rw [rounds_succ]
    go_wp2
    go_quiet (fail)
    go_wp2
    go_quiet (fail)
    go_wp2
    go_ret
    exact ⟨rfl, (by repeat (first | exact Below.refl _ _ | refine Below.setCell ?_ (by simp <;> omega) _ | refine below_drewN ?_ _ | refine Below.drew ?_ | refine Below.alloc ?_ (by simp <;> omega) _ | refine Below.trans ?_ (Below.mono (by assumption) (by simp <;> omega))))⟩

set_option maxHeartbeats 400000 in
/-- wide.Of. -/
theorem of_neg (n : Int) (w : World) (hn : n < 0) :
    Calls Try.prog 63 #[.int .i64 n] w fun e w' => e = .returned (.tuple #[.agg #[.int .u64 0, .int .u64 0], .int .i64 3]) ∧ Below w.heap.size w w' := by
  go_enter Try.func63, Try.ntmps63
  go_wp2
  exact bodyPost_ret (v := .tuple #[.agg #[.int .u64 0, .int .u64 0], .int .i64 3]) (by simp [results, Try.results63, go_sem]) rfl ⟨rfl, (by repeat (first | exact Below.refl _ _ | refine Below.setCell ?_ (by simp <;> omega) _ | refine below_drewN ?_ _ | refine Below.drew ?_ | refine Below.alloc ?_ (by simp <;> omega) _ | refine Below.trans ?_ (Below.mono (by assumption) (by simp <;> omega))))⟩

set_option maxHeartbeats 400000 in
theorem of_pos (n : Int) (w : World) (nl : 0 ≤ n) (nu : n ≤ 9223372036854775807) :
    Calls Try.prog 63 #[.int .i64 n] w fun e w' => e = .returned (.tuple #[.agg #[.int .u64 0, .int .u64 n], .int .i64 0]) ∧ Below w.heap.size w w' := by
  go_enter Try.func63, Try.ntmps63
  go_wp2
  exact bodyPost_ret (v := .tuple #[.agg #[.int .u64 0, .int .u64 n], .int .i64 0]) (by simp [results, Try.results63, go_sem]) rfl ⟨rfl, (by repeat (first | exact Below.refl _ _ | refine Below.setCell ?_ (by simp <;> omega) _ | refine below_drewN ?_ _ | refine Below.drew ?_ | refine Below.alloc ?_ (by simp <;> omega) _ | refine Below.trans ?_ (Below.mono (by assumption) (by simp <;> omega))))⟩

set_option maxHeartbeats 400000 in
/-- wide.More. -/
theorem more_neg (ah al n bh bl m : Int) (w : World) (h : n < 0 ∨ (¬ n < 0 ∧ m < 0)) :
    Calls Try.prog 74 #[.agg #[.int .u64 ah, .int .u64 al], .int .i64 n, .agg #[.int .u64 bh, .int .u64 bl], .int .i64 m] w fun e w' =>
      e = .returned (.tuple #[.bool false, .int .i64 3]) ∧ Below w.heap.size w w' := by
  rcases h with h | ⟨h, h'⟩
  · go_enter Try.func74, Try.ntmps74
    go_wp2
    go_ret2
    exact ⟨rfl, (by repeat (first | exact Below.refl _ _ | refine Below.setCell ?_ (by simp <;> omega) _ | refine below_drewN ?_ _ | refine Below.drew ?_ | refine Below.alloc ?_ (by simp <;> omega) _ | refine Below.trans ?_ (Below.mono (by assumption) (by simp <;> omega))))⟩
  · go_enter Try.func74, Try.ntmps74
    go_wp2
    go_ret2
    exact ⟨rfl, (by repeat (first | exact Below.refl _ _ | refine Below.setCell ?_ (by simp <;> omega) _ | refine below_drewN ?_ _ | refine Below.drew ?_ | refine Below.alloc ?_ (by simp <;> omega) _ | refine Below.trans ?_ (Below.mono (by assumption) (by simp <;> omega))))⟩

set_option maxHeartbeats 400000 in
theorem more_any (ah al n bh bl m : Int) (w : World) (ahl : 0 ≤ ah) (ahu : ah < 18446744073709551616) (all : 0 ≤ al) (alu : al < 18446744073709551616) (bhl : 0 ≤ bh) (bhu : bh < 18446744073709551616) (bll : 0 ≤ bl) (blu : bl < 18446744073709551616) (nl : 0 ≤ n) (nu : n ≤ 9223372036854775807) (ml : 0 ≤ m) (mu : m ≤ 9223372036854775807) :
    Calls Try.prog 74 #[.agg #[.int .u64 ah, .int .u64 al], .int .i64 n, .agg #[.int .u64 bh, .int .u64 bl], .int .i64 m] w fun e w' =>
      e = .returned (.tuple #[.bool (decide ((bh * 18446744073709551616 + bl) * m < (ah * 18446744073709551616 + al) * n)), .int .i64 0]) ∧ Below w.heap.size w w' := by
  have C1 := fun W => product_any ah al n W ahl ahu all alu nl (by omega)
  have C2 := fun W => product_any bh bl m W bhl bhu bll blu ml (by omega)
  have H1 := hide C1
  have H2 := hide C2
  clear C1 C2
  unfold prod3 at H1 H2
  generalize (ah * 18446744073709551616 + al) * n = N at *
  generalize (bh * 18446744073709551616 + bl) * m = M at *
  obtain ⟨n0, e0⟩ : ∃ y, y = N % 18446744073709551616 := ⟨_, rfl⟩
  obtain ⟨n1, e1⟩ : ∃ y, y = N / 18446744073709551616 % 18446744073709551616 := ⟨_, rfl⟩
  obtain ⟨n2, e2⟩ : ∃ y, y = N / 340282366920938463463374607431768211456 := ⟨_, rfl⟩
  obtain ⟨m0, f0⟩ : ∃ y, y = M % 18446744073709551616 := ⟨_, rfl⟩
  obtain ⟨m1, f1⟩ : ∃ y, y = M / 18446744073709551616 % 18446744073709551616 := ⟨_, rfl⟩
  obtain ⟨m2, f2⟩ : ∃ y, y = M / 340282366920938463463374607431768211456 := ⟨_, rfl⟩
  have hv : decide (M < N) = abv n0 n1 n2 m0 m1 m2 := by unfold abv; congr 1; apply propext; omega
  rw [← e0, ← e1, ← e2] at H1
  rw [← f0, ← f1, ← f2] at H2
  rw [hv]
  have A := fun W => above_any n0 n1 n2 m0 m1 m2 W (by omega) (by omega) (by omega) (by omega) (by omega) (by omega) (by omega) (by omega)
  have HA := hide A
  clear A hv e0 e1 e2 f0 f1 f2
  have wn : IntKind.u64.wrap n = n := IntWalk.u64_in _ ⟨nl, by omega⟩
  have wm : IntKind.u64.wrap m = m := IntWalk.u64_in _ ⟨ml, by omega⟩
  go_enter Try.func74, Try.ntmps74
  go_wp2_with fail
  go_region_held3 (fun w' => w'.cell? ⟨w.heap.size, 0, none⟩ = some (.int .u64 ah) ∧ w'.cell? ⟨w.heap.size, 1, none⟩ = some (.int .u64 al) ∧ w'.cell? ⟨w.heap.size + 1, 0, none⟩ = some (.int .u64 bh) ∧ w'.cell? ⟨w.heap.size + 1, 1, none⟩ = some (.int .u64 bl) ∧ w.heap.size + 1 + 1 ≤ w'.heap.size ∧ Below w.heap.size w w')
    (first
      | exact ⟨s0, s1, s2, s3, s4, s5⟩
      | exact ⟨by simp [go_sem], by simp [go_sem], by simp [go_sem], by simp [go_sem], by simp, (by repeat (first | exact Below.refl _ _ | refine Below.setCell ?_ (by simp <;> omega) _ | refine below_drewN ?_ _ | refine Below.drew ?_ | refine Below.alloc ?_ (by simp <;> omega) _ | refine Below.trans ?_ (Below.mono (by assumption) (by simp <;> omega))))⟩)
    (first
      | (go_at_call_of 157 (Value.int .u64 n); refine (H1.out _).mono ?_; rintro e w1 ⟨rfl, hb1⟩; have s0 := (hb1.cell (p := ⟨w.heap.size, 0, none⟩) (by first | (simp; done) | (simp; omega) | (dsimp only; omega))).trans (b := _) (c := some (.int .u64 ah)) (by first | assumption | simp [go_sem]); have s1 := (hb1.cell (p := ⟨w.heap.size, 1, none⟩) (by first | (simp; done) | (simp; omega) | (dsimp only; omega))).trans (b := _) (c := some (.int .u64 al)) (by first | assumption | simp [go_sem]); have s2 := (hb1.cell (p := ⟨w.heap.size + 1, 0, none⟩) (by first | (simp; done) | (simp; omega) | (dsimp only; omega))).trans (b := _) (c := some (.int .u64 bh)) (by first | assumption | simp [go_sem]); have s3 := (hb1.cell (p := ⟨w.heap.size + 1, 1, none⟩) (by first | (simp; done) | (simp; omega) | (dsimp only; omega))).trans (b := _) (c := some (.int .u64 bl)) (by first | assumption | simp [go_sem]); have s4 := Nat.le_trans (n := w.heap.size + 1 + 1) (by first | assumption | simp) hb1.size; have s5 := Below.trans (B := w.heap.size) (a := w) (by first | assumption | exact (by repeat (first | exact Below.refl _ _ | refine Below.setCell ?_ (by simp <;> omega) _ | refine below_drewN ?_ _ | refine Below.drew ?_ | refine Below.alloc ?_ (by simp <;> omega) _ | refine Below.trans ?_ (Below.mono (by assumption) (by simp <;> omega))))) (hb1.mono (by first | (simp; done) | (simp; omega) | omega)); clear hb1)
      | (go_at_call_of 157 (Value.int .u64 m); refine (H2.out _).mono ?_; rintro e w1 ⟨rfl, hb1⟩; have s0 := (hb1.cell (p := ⟨w.heap.size, 0, none⟩) (by first | (simp; done) | (simp; omega) | (dsimp only; omega))).trans (b := _) (c := some (.int .u64 ah)) (by first | assumption | simp [go_sem]); have s1 := (hb1.cell (p := ⟨w.heap.size, 1, none⟩) (by first | (simp; done) | (simp; omega) | (dsimp only; omega))).trans (b := _) (c := some (.int .u64 al)) (by first | assumption | simp [go_sem]); have s2 := (hb1.cell (p := ⟨w.heap.size + 1, 0, none⟩) (by first | (simp; done) | (simp; omega) | (dsimp only; omega))).trans (b := _) (c := some (.int .u64 bh)) (by first | assumption | simp [go_sem]); have s3 := (hb1.cell (p := ⟨w.heap.size + 1, 1, none⟩) (by first | (simp; done) | (simp; omega) | (dsimp only; omega))).trans (b := _) (c := some (.int .u64 bl)) (by first | assumption | simp [go_sem]); have s4 := Nat.le_trans (n := w.heap.size + 1 + 1) (by first | assumption | simp) hb1.size; have s5 := Below.trans (B := w.heap.size) (a := w) (by first | assumption | exact (by repeat (first | exact Below.refl _ _ | refine Below.setCell ?_ (by simp <;> omega) _ | refine below_drewN ?_ _ | refine Below.drew ?_ | refine Below.alloc ?_ (by simp <;> omega) _ | refine Below.trans ?_ (Below.mono (by assumption) (by simp <;> omega))))) (hb1.mono (by first | (simp; done) | (simp; omega) | omega)); clear hb1)
      | (go_at_call 158; refine (HA.out _).mono ?_; rintro e w1 ⟨rfl, hb1⟩; have s0 := (hb1.cell (p := ⟨w.heap.size, 0, none⟩) (by first | (simp; done) | (simp; omega) | (dsimp only; omega))).trans (b := _) (c := some (.int .u64 ah)) (by first | assumption | simp [go_sem]); have s1 := (hb1.cell (p := ⟨w.heap.size, 1, none⟩) (by first | (simp; done) | (simp; omega) | (dsimp only; omega))).trans (b := _) (c := some (.int .u64 al)) (by first | assumption | simp [go_sem]); have s2 := (hb1.cell (p := ⟨w.heap.size + 1, 0, none⟩) (by first | (simp; done) | (simp; omega) | (dsimp only; omega))).trans (b := _) (c := some (.int .u64 bh)) (by first | assumption | simp [go_sem]); have s3 := (hb1.cell (p := ⟨w.heap.size + 1, 1, none⟩) (by first | (simp; done) | (simp; omega) | (dsimp only; omega))).trans (b := _) (c := some (.int .u64 bl)) (by first | assumption | simp [go_sem]); have s4 := Nat.le_trans (n := w.heap.size + 1 + 1) (by first | assumption | simp) hb1.size; have s5 := Below.trans (B := w.heap.size) (a := w) (by first | assumption | exact (by repeat (first | exact Below.refl _ _ | refine Below.setCell ?_ (by simp <;> omega) _ | refine below_drewN ?_ _ | refine Below.drew ?_ | refine Below.alloc ?_ (by simp <;> omega) _ | refine Below.trans ?_ (Below.mono (by assumption) (by simp <;> omega))))) (hb1.mono (by first | (simp; done) | (simp; omega) | omega)); clear hb1))
  go_wp2
  go_ret2
  exact ⟨rfl, by assumption⟩

def cmpI (a b : Int) : Int := if a < b then -1 else if b < a then 1 else 0

set_option maxHeartbeats 400000 in
theorem compare_any (a b : Int) (w : World) :
    Calls Try.prog 192 #[.int .u64 a, .int .u64 b] w fun e w' => e = .returned (.int .i64 (cmpI a b)) ∧ w' = w := by
  have ha : (a != a) = false := by simp
  have hb : (b != b) = false := by simp
  by_cases h1 : a < b
  · have hv : cmpI a b = -1 := by simp [cmpI, h1]
    rw [hv]
    go_enter Try.func192, Try.ntmps192
    go_wp2
    go_ret
    exact ⟨rfl, rfl⟩
  · by_cases h2 : b < a
    · have hv : cmpI a b = 1 := by simp [cmpI, h1, h2]
      rw [hv]
      go_enter Try.func192, Try.ntmps192
      go_wp2
      go_ret
      exact ⟨rfl, rfl⟩
    · have hv : cmpI a b = 0 := by simp [cmpI, h1, h2]
      rw [hv]
      go_enter Try.func192, Try.ntmps192
      go_wp2
      go_ret
      exact ⟨rfl, rfl⟩

set_option maxHeartbeats 400000 in
/-- wide.Cmp. -/
theorem wcmp_any (ah al bh bl : Int) (w : World) (all : 0 ≤ al) (alu : al < 18446744073709551616) (bll : 0 ≤ bl) (blu : bl < 18446744073709551616) :
    Calls Try.prog 159 #[.agg #[.int .u64 ah, .int .u64 al], .agg #[.int .u64 bh, .int .u64 bl]] w fun e w' =>
      e = .returned (.int .i64 (cmpI (ah * 18446744073709551616 + al) (bh * 18446744073709551616 + bl))) ∧ Below w.heap.size w w' := by
  by_cases h : ah = bh
  · have hv : cmpI (ah * 18446744073709551616 + al) (bh * 18446744073709551616 + bl) = cmpI al bl := by unfold cmpI; subst h; congr 1 <;> first | (simp; done) | (congr 1; simp; done) | skip
    rw [hv]
    clear hv
    have t0 : (ah != bh) = false := by simp [h]
    clear h
    go_enter Try.func159, Try.ntmps159
    go_wp2_with (go_at_call 192; refine (compare_any _ _ _).mono ?_; rintro e w' ⟨rfl, hw⟩; subst hw)
    go_ret
    exact ⟨rfl, (by repeat (first | exact Below.refl _ _ | refine Below.setCell ?_ (by simp <;> omega) _ | refine below_drewN ?_ _ | refine Below.drew ?_ | refine Below.alloc ?_ (by simp <;> omega) _ | refine Below.trans ?_ (Below.mono (by assumption) (by simp <;> omega))))⟩
  · have hv : cmpI (ah * 18446744073709551616 + al) (bh * 18446744073709551616 + bl) = cmpI ah bh := by
      unfold cmpI
      by_cases h1 : ah < bh
      · rw [if_pos h1, if_pos (by omega)]
      · rw [if_neg h1, if_neg (by omega), if_pos (by omega), if_pos (by omega)]
    rw [hv]
    clear hv
    have t0 : (ah != bh) = true := by simp [h]
    clear h
    go_enter Try.func159, Try.ntmps159
    go_wp2_with (go_at_call 192; refine (compare_any _ _ _).mono ?_; rintro e w' ⟨rfl, hw⟩; subst hw)
    go_ret
    exact ⟨rfl, (by repeat (first | exact Below.refl _ _ | refine Below.setCell ?_ (by simp <;> omega) _ | refine below_drewN ?_ _ | refine Below.drew ?_ | refine Below.alloc ?_ (by simp <;> omega) _ | refine Below.trans ?_ (Below.mono (by assumption) (by simp <;> omega))))⟩

def clampN (T : Int) : Int := if T < 9223372036854775808 then T else 9223372036854775807

set_option maxHeartbeats 400000 in
/-- wide.Clamp. -/
theorem clamp_any (ah al : Int) (w : World) (ahl : 0 ≤ ah) (all : 0 ≤ al) (alu : al < 18446744073709551616) :
    Calls Try.prog 73 #[.agg #[.int .u64 ah, .int .u64 al]] w fun e w' =>
      e = .returned (.int .i64 (clampN (ah * 18446744073709551616 + al))) ∧ Below w.heap.size w w' := by
  by_cases h : ah = 0
  · subst h
    by_cases h1 : al < 9223372036854775808
    · have hv : clampN (0 * 18446744073709551616 + al) = al := by unfold clampN; rw [if_pos (by omega)]; omega
      rw [hv]
      clear hv
      go_enter Try.func73, Try.ntmps73
      go_wp2
      go_ret
      exact ⟨rfl, (by repeat (first | exact Below.refl _ _ | refine Below.setCell ?_ (by simp <;> omega) _ | refine below_drewN ?_ _ | refine Below.drew ?_ | refine Below.alloc ?_ (by simp <;> omega) _ | refine Below.trans ?_ (Below.mono (by assumption) (by simp <;> omega))))⟩
    · have hv : clampN (0 * 18446744073709551616 + al) = 9223372036854775807 := by unfold clampN; rw [if_neg (by omega)]
      rw [hv]
      clear hv
      go_enter Try.func73, Try.ntmps73
      go_wp2
      go_ret
      exact ⟨rfl, (by repeat (first | exact Below.refl _ _ | refine Below.setCell ?_ (by simp <;> omega) _ | refine below_drewN ?_ _ | refine Below.drew ?_ | refine Below.alloc ?_ (by simp <;> omega) _ | refine Below.trans ?_ (Below.mono (by assumption) (by simp <;> omega))))⟩
  · have hv : clampN (ah * 18446744073709551616 + al) = 9223372036854775807 := by unfold clampN; rw [if_neg (by omega)]
    rw [hv]
    clear hv
    have t0 : (ah != 0) = true := by simp [h]
    clear h
    go_enter Try.func73, Try.ntmps73
    go_wp2
    go_ret
    exact ⟨rfl, (by repeat (first | exact Below.refl _ _ | refine Below.setCell ?_ (by simp <;> omega) _ | refine below_drewN ?_ _ | refine Below.drew ?_ | refine Below.alloc ?_ (by simp <;> omega) _ | refine Below.trans ?_ (Below.mono (by assumption) (by simp <;> omega))))⟩

end WideB
end Go.Proofs.Ytackcnncjeajpaa
