/-
  What the reference of layer 1 answers: sums, products, how two wides stand.
-/
import Derived.Test.YtefbgienbgcchaaWideB
namespace Go.Proofs.Ytefbgienbgcchaa
open Go.RowKit Go.Shelf
namespace WideR
open WideA WideB

set_option maxHeartbeats 400000 in
theorem rplus (a b c : Int) (w : World) (al : 0 ≤ a) (au : a < 18446744073709551616) (bl : 0 ≤ b) (bu : b < 18446744073709551616) (c0 : 0 ≤ c) (c1 : c ≤ 1) :
    Calls Try.prog 40 #[.int .u64 a, .int .u64 b, .int .u64 c] w fun e w' => e = .returned (.tuple #[.int .u64 ((a + b + c) % 18446744073709551616), .int .u64 ((a + b + c) / 18446744073709551616)]) ∧ w' = w := by
  by_cases h : a + b < 18446744073709551616
  · by_cases h2 : a + b + c < 18446744073709551616
    · have e1 : (a + b + c) % 18446744073709551616 = a + b + c := by omega
      have e2 : (a + b + c) / 18446744073709551616 = 0 := by omega
      rw [e1, e2]
      clear e1 e2
      go_enter Try.func40, Try.ntmps40
      go_wp2
      go_ret2
      exact ⟨rfl, rfl⟩
    · have e1 : (a + b + c) % 18446744073709551616 = 0 := by omega
      have e2 : (a + b + c) / 18446744073709551616 = 1 := by omega
      have e3 : IntKind.u64.wrap (a + b + c) = 0 := by rw [IntKind.wrap_u64]; omega
      have hp : 0 < a + b := by omega
      rw [e1, e2]
      clear e1 e2
      go_enter Try.func40, Try.ntmps40
      go_wp2
      go_ret2
      exact ⟨rfl, rfl⟩
  · have e3 : IntKind.u64.wrap (a + b) = a + b - 18446744073709551616 := by rw [IntKind.wrap_u64]; omega
    obtain ⟨s, hs⟩ : ∃ s, s = a + b - 18446744073709551616 := ⟨_, rfl⟩
    rw [← hs] at e3
    have e1 : (a + b + c) % 18446744073709551616 = s + c := by omega
    have e2 : (a + b + c) / 18446744073709551616 = 1 := by omega
    have g1 : s < a := by omega
    have g2 : s + c < 18446744073709551616 := by omega
    have g3 : 0 ≤ s := by omega
    rw [e1, e2]
    clear e1 e2 hs h
    go_enter Try.func40, Try.ntmps40
    go_wp2
    go_ret2
    exact ⟨rfl, rfl⟩

set_option maxHeartbeats 400000 in
theorem rPlus (ah al bh bl : Int) (w : World) (ahl : 0 ≤ ah) (ahu : ah < 18446744073709551616) (all : 0 ≤ al) (alu : al < 18446744073709551616) (bhl : 0 ≤ bh) (bhu : bh < 18446744073709551616) (bll : 0 ≤ bl) (blu : bl < 18446744073709551616) :
    Calls Try.prog 15 #[.agg #[.int .u64 ah, .int .u64 al], .agg #[.int .u64 bh, .int .u64 bl]] w fun e w' =>
      e = .returned (wRes (ah * 18446744073709551616 + al + (bh * 18446744073709551616 + bl))) ∧ Below w.heap.size w w' := by
  obtain ⟨V, hT⟩ : ∃ V, V = ah * 18446744073709551616 + al + (bh * 18446744073709551616 + bl) := ⟨_, rfl⟩
  rw [← hT]
  obtain ⟨y0, e0⟩ : ∃ y, y = (al + bl + 0) % 18446744073709551616 := ⟨_, rfl⟩
  obtain ⟨c, ec⟩ : ∃ y, y = (al + bl + 0) / 18446744073709551616 := ⟨_, rfl⟩
  obtain ⟨y1, e1⟩ : ∃ y, y = (ah + bh + c) % 18446744073709551616 := ⟨_, rfl⟩
  obtain ⟨y2, e2⟩ : ∃ y, y = (ah + bh + c) / 18446744073709551616 := ⟨_, rfl⟩
  have q0 : V % 18446744073709551616 = y0 := by omega
  have q1 : V / 18446744073709551616 % 18446744073709551616 = y1 := by omega
  have q2 : V / 340282366920938463463374607431768211456 = y2 := by omega
  have C0 := fun (W : World) => rplus al bl 0 W all alu bll blu (by decide) (by decide)
  have C1 := fun (W : World) => rplus ah bh c W ahl ahu bhl bhu (by omega) (by omega)
  rw [← e0, ← ec] at C0
  rw [← e1, ← e2] at C1
  unfold wRes
  rw [q0, q1, q2]
  have hy : y2 = 0 ∨ y2 = 1 := by omega
  have H0 := hide C0
  have H1 := hide C1
  clear C0 C1 e0 ec e1 e2 q0 q1 q2 hT
  rcases hy with rfl | rfl
  · rw [okN_zero, okN_zero, errN_zero]
    go_enter Try.func15, Try.ntmps15
    go_wp2_with fail
    refine (H0.out _).mono ?_
    rintro e w1 ⟨rfl, hw⟩
    subst hw
    go_wp2_with fail
    refine (H1.out _).mono ?_
    rintro e w1 ⟨rfl, hw⟩
    subst hw
    go_wp2
    exact bodyPost_ret (v := .tuple #[.agg #[.int .u64 y1, .int .u64 y0], .int .i64 0]) (by simp [results, Try.results15, go_sem]) rfl ⟨rfl, (by repeat (first | assumption | exact Below.refl _ _ | refine Below.setCell ?_ (by first | omega | (simp; done) | (simp; omega)) _ | refine below_drewN ?_ _ | refine Below.drew ?_ | refine Below.alloc ?_ (by first | omega | (simp; done) | (simp; omega)) _ | refine Below.trans ?_ (Below.mono (by assumption) (by first | omega | (simp; done) | (simp; omega)))))⟩
  · rw [okN_other (by decide), okN_other (by decide), errN_other (by decide)]
    go_enter Try.func15, Try.ntmps15
    go_wp2_with fail
    refine (H0.out _).mono ?_
    rintro e w1 ⟨rfl, hw⟩
    subst hw
    go_wp2_with fail
    refine (H1.out _).mono ?_
    rintro e w1 ⟨rfl, hw⟩
    subst hw
    go_wp2
    exact bodyPost_ret (v := .tuple #[.agg #[.int .u64 0, .int .u64 0], .int .i64 7]) (by simp [results, Try.results15, go_sem]) rfl ⟨rfl, (by repeat (first | assumption | exact Below.refl _ _ | refine Below.setCell ?_ (by first | omega | (simp; done) | (simp; omega)) _ | refine below_drewN ?_ _ | refine Below.drew ?_ | refine Below.alloc ?_ (by first | omega | (simp; done) | (simp; omega)) _ | refine Below.trans ?_ (Below.mono (by assumption) (by first | omega | (simp; done) | (simp; omega)))))⟩

/-- The words of a number. -/
def d0 (p : Int) : Int := p % 18446744073709551616
def d1 (p : Int) : Int := p / 18446744073709551616 % 18446744073709551616
def d2 (p : Int) : Int := p / 18446744073709551616 / 18446744073709551616
theorem d_bd (p : Int) (h : 0 ≤ p) (h' : p < 6277101735386680763835789423207666416102355444464034512896) : (0 ≤ d0 p ∧ d0 p < 18446744073709551616) ∧ (0 ≤ d1 p ∧ d1 p < 18446744073709551616) ∧ (0 ≤ d2 p ∧ d2 p < 18446744073709551616) := by
  unfold d0 d1 d2; omega

set_option maxHeartbeats 400000 in
theorem radded (p q : Int) (w : World) (p0 : 0 ≤ p) (q0 : 0 ≤ q) (hpq : p + q < 6277101735386680763835789423207666416102355444464034512896) :
    Calls Try.prog 54 #[.agg #[.int .u64 (d0 p), .int .u64 (d1 p), .int .u64 (d2 p)], .agg #[.int .u64 (d0 q), .int .u64 (d1 q), .int .u64 (d2 q)]] w fun e w' =>
      e = .returned (.agg #[.int .u64 (d0 (p + q)), .int .u64 (d1 (p + q)), .int .u64 (d2 (p + q))]) ∧ Below w.heap.size w w' := by
  obtain ⟨⟨a0, a1⟩, ⟨a2, a3⟩, ⟨a4, a5⟩⟩ := d_bd p p0 (by omega)
  obtain ⟨⟨b0, b1⟩, ⟨b2, b3⟩, ⟨b4, b5⟩⟩ := d_bd q q0 (by omega)
  obtain ⟨k1, e1⟩ : ∃ y, y = (d0 p + d0 q + 0) / 18446744073709551616 := ⟨_, rfl⟩
  obtain ⟨k2, e2⟩ : ∃ y, y = (d1 p + d1 q + k1) / 18446744073709551616 := ⟨_, rfl⟩
  obtain ⟨k3, e3⟩ : ∃ y, y = (d2 p + d2 q + k2) / 18446744073709551616 := ⟨_, rfl⟩
  have g0 : (d0 p + d0 q + 0) % 18446744073709551616 = d0 (p + q) := by unfold d0; omega
  have s1 : (p + q) / 18446744073709551616 = p / 18446744073709551616 + q / 18446744073709551616 + k1 := by unfold d0 at e1; omega
  have g1 : (d1 p + d1 q + k1) % 18446744073709551616 = d1 (p + q) := by unfold d1; rw [s1]; omega
  have s2 : (p + q) / 18446744073709551616 / 18446744073709551616 = p / 18446744073709551616 / 18446744073709551616 + q / 18446744073709551616 / 18446744073709551616 + k2 := by rw [s1]; unfold d1 at e2; omega
  have g2 : (d2 p + d2 q + k2) % 18446744073709551616 = d2 (p + q) := by unfold d2; rw [s2]; omega
  clear s1 s2
  have C0 := fun (W : World) => rplus (d0 p) (d0 q) 0 W a0 a1 b0 b1 (by decide) (by decide)
  have C1 := fun (W : World) => rplus (d1 p) (d1 q) k1 W a2 a3 b2 b3 (by omega) (by omega)
  have C2 := fun (W : World) => rplus (d2 p) (d2 q) k2 W a4 a5 b4 b5 (by omega) (by omega)
  rw [← e1, g0] at C0
  rw [← e2, g1] at C1
  rw [← e3, g2] at C2
  clear g0 g1 g2 e1 e2 e3 a0 a1 a2 a3 a4 a5 b0 b1 b2 b3 b4 b5 p0 q0 hpq
  generalize d0 p = x0 at *
  generalize d1 p = x1 at *
  generalize d2 p = x2 at *
  generalize d0 q = y0 at *
  generalize d1 q = y1 at *
  generalize d2 q = y2 at *
  generalize d0 (p + q) = z0 at *
  generalize d1 (p + q) = z1 at *
  generalize d2 (p + q) = z2 at *
  have H0 := hide C0
  have H1 := hide C1
  have H2 := hide C2
  clear C0 C1 C2
  go_enter Try.func54, Try.ntmps54
  go_wp2
  refine wp_loop_rounds 4 ?_; rw [rounds_succ]
  go_wp2_with fail
  go_region_held3 (fun w' => w'.cell? ⟨w.heap.size, 0, none⟩ = some (.int .u64 x0) ∧ w'.cell? ⟨w.heap.size + 1, 0, none⟩ = some (.int .u64 y0)) (first | (simp [go_sem]; done) | (refine ⟨?_, ?_⟩ <;> assumption)) (first | (go_at_call 40; refine (H0.out _).mono ?_; rintro e w1 ⟨rfl, hw⟩; subst hw))
  go_wp2
  rw [rounds_succ]
  go_wp2_with fail
  go_region_held3 (fun w' => w'.cell? ⟨w.heap.size, 1, none⟩ = some (.int .u64 x1) ∧ w'.cell? ⟨w.heap.size + 1, 1, none⟩ = some (.int .u64 y1)) (first | (simp [go_sem]; done) | (refine ⟨?_, ?_⟩ <;> assumption)) (first | (go_at_call 40; refine (H1.out _).mono ?_; rintro e w1 ⟨rfl, hw⟩; subst hw))
  go_wp2
  rw [rounds_succ]
  go_wp2_with fail
  go_region_held3 (fun w' => w'.cell? ⟨w.heap.size, 2, none⟩ = some (.int .u64 x2) ∧ w'.cell? ⟨w.heap.size + 1, 2, none⟩ = some (.int .u64 y2)) (first | (simp [go_sem]; done) | (refine ⟨?_, ?_⟩ <;> assumption)) (first | (go_at_call 40; refine (H2.out _).mono ?_; rintro e w1 ⟨rfl, hw⟩; subst hw))
  go_wp2
  rw [rounds_succ]
  go_wp2
  exact bodyPost_ret (v := .agg #[.int .u64 z0, .int .u64 z1, .int .u64 z2]) (by simp [results, Try.results54, go_sem]) rfl ⟨rfl, (by repeat (first | assumption | exact Below.refl _ _ | refine Below.setCell ?_ (by first | omega | (simp; done) | (simp; omega)) _ | refine below_drewN ?_ _ | refine Below.drew ?_ | refine Below.alloc ?_ (by first | omega | (simp; done) | (simp; omega)) _ | refine Below.trans ?_ (Below.mono (by assumption) (by first | omega | (simp; done) | (simp; omega)))))⟩

theorem words_put (w : World) (b : Nat) (x0 x1 x2 y0 y1 y2 : Int) (h : Words w b x0 x1 x2) : Words (putWords w b y0 y1 y2) b y0 y1 y2 := by
  obtain ⟨h0, h1, h2, f0, f1, f2⟩ := h
  unfold putWords
  refine ⟨?_, ?_, ?_, ?_, ?_, ?_⟩ <;> simp [go_sem, h0, h1, h2, f0, f1, f2]
theorem words_put_other (w : World) (b c : Nat) (hbc : b ≠ c) (x0 x1 x2 y0 y1 y2 : Int) (h : Words w c x0 x1 x2) : Words (putWords w b y0 y1 y2) c x0 x1 x2 := by
  obtain ⟨h0, h1, h2, f0, f1, f2⟩ := h
  have _hcb : c ≠ b := fun e => hbc e.symm
  unfold putWords
  refine ⟨?_, ?_, ?_, ?_, ?_, ?_⟩ <;> simp [go_sem, h0, h1, h2, f0, f1, f2]
theorem words_below {B b : Nat} {W w1 : World} {x0 x1 x2 : Int} (hb : Below B W w1) (hB : b < B) (h : Words W b x0 x1 x2) : Words w1 b x0 x1 x2 := by
  obtain ⟨h0, h1, h2, f0, f1, f2⟩ := h
  exact ⟨(hb.cell (p := ⟨b, 0, none⟩) hB).trans h0, (hb.cell (p := ⟨b, 1, none⟩) hB).trans h1, (hb.cell (p := ⟨b, 2, none⟩) hB).trans h2, (hb.frozen (p := ⟨b, 0, none⟩) hB).trans f0, (hb.frozen (p := ⟨b, 1, none⟩) hB).trans f1, (hb.frozen (p := ⟨b, 2, none⟩) hB).trans f2⟩
theorem size_put (w : World) (b : Nat) (y0 y1 y2 : Int) : (putWords w b y0 y1 y2).heap.size = w.heap.size := by
  unfold putWords; simp
theorem below_put {B b : Nat} {W w1 : World} (hb : Below B W w1) (hB : B ≤ b) (y0 y1 y2 : Int) : Below B W (putWords w1 b y0 y1 y2) := by
  unfold putWords
  exact ((hb.setCell (p := ⟨b, 0, none⟩) hB _).setCell (p := ⟨b, 1, none⟩) hB _).setCell (p := ⟨b, 2, none⟩) hB _

/-- What is known at the head of a round of the reference's product. -/
def Dou (w wr : World) (o x : Int) : Prop :=
  Words wr (w.heap.size + 1) 0 0 0 ∧ Words wr (w.heap.size + 1 + 1) (d0 o) (d1 o) (d2 o) ∧ Words wr (w.heap.size + 1 + 1 + 1) (d0 x) (d1 x) (d2 x) ∧ Below w.heap.size w wr ∧ w.heap.size + 1 + 1 + 1 + 1 ≤ wr.heap.size
theorem dou_below {w wr w1 : World} {o x : Int} (h : Dou w wr o x) (hb : Below wr.heap.size wr w1) : Dou w w1 o x := by
  obtain ⟨h1, h2, h3, h4, h5⟩ := h
  exact ⟨words_below hb (by omega) h1, words_below hb (by omega) h2, words_below hb (by omega) h3, h4.trans (hb.mono h4.size), Nat.le_trans h5 hb.size⟩
theorem dou_out {w wr : World} {o x : Int} (h : Dou w wr o x) (p : Int) : Dou w (putWords wr (w.heap.size + 1 + 1) (d0 p) (d1 p) (d2 p)) p x := by
  obtain ⟨h1, h2, h3, h4, h5⟩ := h
  exact ⟨words_put_other _ _ _ (by omega) _ _ _ _ _ _ h1, words_put _ _ _ _ _ _ _ _ h2, words_put_other _ _ _ (by omega) _ _ _ _ _ _ h3, below_put h4 (by omega) _ _ _, by rw [size_put]; exact h5⟩
theorem dou_x {w wr : World} {o x : Int} (h : Dou w wr o x) (p : Int) : Dou w (putWords wr (w.heap.size + 1 + 1 + 1) (d0 p) (d1 p) (d2 p)) o p := by
  obtain ⟨h1, h2, h3, h4, h5⟩ := h
  exact ⟨words_put_other _ _ _ (by omega) _ _ _ _ _ _ h1, words_put_other _ _ _ (by omega) _ _ _ _ _ _ h2, words_put _ _ _ _ _ _ _ _ h3, below_put h4 (by omega) _ _ _, by rw [size_put]; exact h5⟩

/-- A step of doubling: what stays is the sum of what is out and x n. -/
theorem dou_step (o x n N : Int) (h : o + x * n = N) (h2 : n % 2 = 1) : (o + x) + (x + x) * (n / 2) = N := by
  have e : n = 2 * (n / 2) + 1 := by omega
  generalize n / 2 = m at *
  subst e
  rw [← h, Int.mul_add, Int.mul_one, Int.add_mul, Int.two_mul, Int.mul_add]
  omega
theorem dou_even (o x n N : Int) (h : o + x * n = N) (h2 : n % 2 = 0) : o + (x + x) * (n / 2) = N := by
  have e : n = 2 * (n / 2) := by omega
  generalize n / 2 = m at *
  subst e
  rw [← h, Int.add_mul, Int.two_mul, Int.mul_add]
theorem dou_le (o x n N : Int) (hx : 0 ≤ x) (h : o + x * n = N) (hn : 1 ≤ n) : o + x ≤ N := by
  have : x * 1 ≤ x * n := Int.mul_le_mul_of_nonneg_left hn hx
  omega

set_option maxHeartbeats 1000000 in
theorem rproduct (hi lo n : Int) (w : World) (hil : 0 ≤ hi) (hiu : hi < 18446744073709551616) (lol : 0 ≤ lo) (lou : lo < 18446744073709551616) (nl : 0 ≤ n) (nu : n ≤ 9223372036854775807) :
    Calls Try.prog 42 #[.agg #[.int .u64 hi, .int .u64 lo], .int .i64 n] w fun e w' =>
      e = .returned (.agg #[.int .u64 (d0 ((hi * 18446744073709551616 + lo) * n)), .int .u64 (d1 ((hi * 18446744073709551616 + lo) * n)), .int .u64 (d2 ((hi * 18446744073709551616 + lo) * n))]) ∧ Below w.heap.size w w' := by
  obtain ⟨A, hA⟩ : ∃ A, A = hi * 18446744073709551616 + lo := ⟨_, rfl⟩
  rw [← hA]
  have hA1 : 0 ≤ A ∧ A ≤ 340282366920938463463374607431768211455 := by omega
  obtain ⟨N, hN⟩ : ∃ N, N = A * n := ⟨_, rfl⟩
  rw [← hN]
  have hNb : N < 3138550867693340381917894711603833208051177722232017256448 := by
    have h1 : A * n ≤ 340282366920938463463374607431768211455 * 9223372036854775807 := Int.le_trans (Int.mul_le_mul_of_nonneg_right hA1.2 nl) (Int.mul_le_mul_of_nonneg_left nu (by decide))
    omega
  have k0 : d0 0 = 0 := by decide
  have k1 : d1 0 = 0 := by decide
  have k2 : d2 0 = 0 := by decide
  have a0 : lo = d0 A := by unfold d0; omega
  have a1 : hi = d1 A := by unfold d1; omega
  have a2 : (0 : Int) = d2 A := by unfold d2; omega
  have hstart : Dou w ((((w.alloc (.cells #[.int .u64 hi, .int .u64 lo] 24)).alloc (.cells #[.int .u64 0, .int .u64 0, .int .u64 0] 56)).alloc (.cells #[.int .u64 0, .int .u64 0, .int .u64 0] 56)).alloc (.cells #[.int .u64 lo, .int .u64 hi, .int .u64 0] 56)) 0 A := by
    refine ⟨?_, ?_, ?_, (by repeat (first | assumption | exact Below.refl _ _ | refine Below.setCell ?_ (by first | omega | (simp; done) | (simp; omega)) _ | refine below_drewN ?_ _ | refine Below.drew ?_ | refine Below.alloc ?_ (by first | omega | (simp; done) | (simp; omega)) _ | refine Below.trans ?_ (Below.mono (by assumption) (by first | omega | (simp; done) | (simp; omega))))), by simp⟩
    · refine ⟨?_, ?_, ?_, ?_, ?_, ?_⟩ <;> simp [go_sem]
    · rw [k0, k1, k2]; refine ⟨?_, ?_, ?_, ?_, ?_, ?_⟩ <;> simp [go_sem]
    · rw [← a0, ← a1, ← a2]; refine ⟨?_, ?_, ?_, ?_, ?_, ?_⟩ <;> simp [go_sem]
  have HS := hide hstart
  have HN : Hid (0 + A * n = N) := hide (by rw [hN]; omega)
  clear hstart hN a0 a1 a2 k0 k1 k2 hA
  go_enter Try.func42, Try.ntmps42
  go_wp2
  go_loopw [1] (fun v wr => ∃ o x m : Int, 0 ≤ o ∧ 0 ≤ x ∧ 0 ≤ m ∧ m ≤ 9223372036854775807 ∧ Hid (o + x * m = N) ∧ v = .int .i64 m ∧ Dou w wr o x) (fun v _ => (intOf v).toNat)
  case atStart => exact ⟨0, A, n, by omega, by omega, nl, nu, HN, rfl, HS.out⟩
  case round =>
    obtain ⟨o, x, m, ho, hx, hm, hm2, hI, rfl, hD⟩ := hrel
    by_cases hlt : 0 < m
    · have hle := dou_le o x m N hx hI.out hlt
      have hD0 := hD
      obtain ⟨_, ⟨p0, p1, p2, f0, f1, f2⟩, ⟨x0, x1, x2, g0, g1, g2⟩, hB, hz⟩ := hD
      have C1 := fun (W : World) => radded o x W ho hx (by omega)
      have C2 := fun (W : World) => radded x x W hx hx (by omega)
      have H1 := hide C1
      have H2 := hide C2
      clear C1 C2
      have HD := hide hD0
      clear hD0
      by_cases h2 : m % 2 = 1
      · have t2 : (m % 2 == 1) = true := by simp [h2]
        have HE := hide (dou_step o x m N hI.out h2)
        clear h2 hI
        go_wp2_with fail
        refine (H1.out _).mono ?_
        rintro e w1 ⟨rfl, hb⟩
        have hD1 := dou_below HD.out hb
        have HD1 := hide hD1
        clear p0 p1 p2 f0 f1 f2 x0 x1 x2 g0 g1 g2 hB hz hb HD
        obtain ⟨_, ⟨p0, p1, p2, f0, f1, f2⟩, ⟨x0, x1, x2, g0, g1, g2⟩, hB, hz⟩ := hD1
        go_wp2_with fail
        refine (H2.out _).mono ?_
        rintro e w2 ⟨rfl, hb⟩
        have hD2 := dou_below (dou_out HD1.out (o + x)) hb
        have HD2 := hide hD2
        clear p0 p1 p2 f0 f1 f2 x0 x1 x2 g0 g1 g2 hB hz hb HD1
        obtain ⟨_, ⟨p0, p1, p2, f0, f1, f2⟩, ⟨x0, x1, x2, g0, g1, g2⟩, hB, hz⟩ := hD2
        go_wp2
        go_roundw
        case rel => exact ⟨o + x, x + x, m / 2, by omega, by omega, by omega, by omega, HE, rfl, dou_x HD2.out (x + x)⟩
        case measure => simp [intOf]; omega
      · have h3 : m % 2 = 0 := by omega
        have t2 : (m % 2 == 1) = false := by simp [h3]
        have HE := hide (dou_even o x m N hI.out h3)
        clear h2 h3 hI
        go_wp2_with fail
        refine (H2.out _).mono ?_
        rintro e w1 ⟨rfl, hb⟩
        have hD1 := dou_below HD.out hb
        have HD1 := hide hD1
        clear p0 p1 p2 f0 f1 f2 x0 x1 x2 g0 g1 g2 hB hz hb HD
        obtain ⟨_, ⟨p0, p1, p2, f0, f1, f2⟩, ⟨x0, x1, x2, g0, g1, g2⟩, hB, hz⟩ := hD1
        go_wp2
        go_roundw
        case rel => exact ⟨o, x + x, m / 2, by omega, by omega, by omega, by omega, HE, rfl, dou_x HD1.out (x + x)⟩
        case measure => simp [intOf]; omega
    · obtain rfl : m = 0 := by omega
      have hoN : o = N := by have := hI.out; rw [Int.mul_zero] at this; omega
      subst hoN
      clear hI
      obtain ⟨⟨r0, r1, r2, s0, s1, s2⟩, ⟨p0, p1, p2, f0, f1, f2⟩, _, hB, hz⟩ := hD
      go_wp2
      exact bodyPost_ret (v := .agg #[.int .u64 (d0 o), .int .u64 (d1 o), .int .u64 (d2 o)]) (by simp [results, Try.results42, go_sem, r0, r1, r2]) rfl ⟨rfl, (by repeat (first | assumption | exact Below.refl _ _ | refine Below.setCell ?_ (by first | omega | (simp; done) | (simp; omega)) _ | refine below_drewN ?_ _ | refine Below.drew ?_ | refine Below.alloc ?_ (by first | omega | (simp; done) | (simp; omega)) _ | refine Below.trans ?_ (Below.mono (by assumption) (by first | omega | (simp; done) | (simp; omega)))))⟩

theorem wRes_d (N : Int) : wRes N = .tuple #[.agg #[.int .u64 (okN (d2 N) (d1 N)), .int .u64 (okN (d2 N) (d0 N))], .int .i64 (errN (d2 N))] := by
  have e : N / 340282366920938463463374607431768211456 = d2 N := by unfold d2; omega
  unfold wRes
  rw [e]
  rfl

set_option maxHeartbeats 400000 in
theorem rtimes_neg (hi lo n : Int) (w : World) (hn : n < 0) :
    Calls Try.prog 17 #[.agg #[.int .u64 hi, .int .u64 lo], .int .i64 n] w fun e w' =>
      e = .returned (.tuple #[.agg #[.int .u64 0, .int .u64 0], .int .i64 3]) ∧ Below w.heap.size w w' := by
  go_enter Try.func17, Try.ntmps17
  go_wp2
  exact bodyPost_ret (v := .tuple #[.agg #[.int .u64 0, .int .u64 0], .int .i64 3]) (by simp [results, Try.results17, go_sem]) rfl ⟨rfl, (by repeat (first | assumption | exact Below.refl _ _ | refine Below.setCell ?_ (by first | omega | (simp; done) | (simp; omega)) _ | refine below_drewN ?_ _ | refine Below.drew ?_ | refine Below.alloc ?_ (by first | omega | (simp; done) | (simp; omega)) _ | refine Below.trans ?_ (Below.mono (by assumption) (by first | omega | (simp; done) | (simp; omega)))))⟩

theorem d2_nonneg (N : Int) (h : 0 ≤ N) : 0 ≤ d2 N := by unfold d2; omega

set_option maxHeartbeats 400000 in
theorem rtimes_any (hi lo n : Int) (w : World) (hil : 0 ≤ hi) (hiu : hi < 18446744073709551616) (lol : 0 ≤ lo) (lou : lo < 18446744073709551616) (nl : 0 ≤ n) (nu : n ≤ 9223372036854775807) :
    Calls Try.prog 17 #[.agg #[.int .u64 hi, .int .u64 lo], .int .i64 n] w fun e w' =>
      e = .returned (wRes ((hi * 18446744073709551616 + lo) * n)) ∧ Below w.heap.size w w' := by
  have C := fun W => rproduct hi lo n W hil hiu lol lou nl nu
  have hN : 0 ≤ (hi * 18446744073709551616 + lo) * n := Int.mul_nonneg (by omega) nl
  rw [wRes_d]
  generalize (hi * 18446744073709551616 + lo) * n = N at *
  have hk := d2_nonneg N hN
  have H := hide C
  clear C hN
  generalize d0 N = a at *
  generalize d1 N = b at *
  generalize d2 N = c at *
  by_cases hc : c = 0
  · subst hc
    rw [okN_zero, okN_zero, errN_zero]
    go_enter Try.func17, Try.ntmps17
    go_wp2_with fail
    refine (H.out _).mono ?_
    rintro e w1 ⟨rfl, hb⟩
    obtain ⟨hc, hf, hz⟩ := bcell hb
    simp only [World.size_alloc] at hc hf hz
    have hz1 : w.heap.size + 1 < w1.heap.size := by omega
    go_wp2
    exact bodyPost_ret (v := .tuple #[.agg #[.int .u64 b, .int .u64 a], .int .i64 0]) (by simp [results, Try.results17, go_sem, hc, hz1]) rfl ⟨rfl, (by repeat (first | assumption | exact Below.refl _ _ | refine Below.setCell ?_ (by first | omega | (simp; done) | (simp; omega)) _ | refine below_drewN ?_ _ | refine Below.drew ?_ | refine Below.alloc ?_ (by first | omega | (simp; done) | (simp; omega)) _ | refine Below.trans ?_ (Below.mono (by assumption) (by first | omega | (simp; done) | (simp; omega)))))⟩
  · have hk2 : 0 < c := by omega
    rw [okN_other hc, okN_other hc, errN_other hc]
    clear hc hk
    go_enter Try.func17, Try.ntmps17
    go_wp2_with fail
    refine (H.out _).mono ?_
    rintro e w1 ⟨rfl, hb⟩
    obtain ⟨hc, hf, hz⟩ := bcell hb
    simp only [World.size_alloc] at hc hf hz
    have hz1 : w.heap.size + 1 < w1.heap.size := by omega
    go_wp2
    exact bodyPost_ret (v := .tuple #[.agg #[.int .u64 0, .int .u64 0], .int .i64 7]) (by simp [results, Try.results17, go_sem, hc, hz1]) rfl ⟨rfl, (by repeat (first | assumption | exact Below.refl _ _ | refine Below.setCell ?_ (by first | omega | (simp; done) | (simp; omega)) _ | refine below_drewN ?_ _ | refine Below.drew ?_ | refine Below.alloc ?_ (by first | omega | (simp; done) | (simp; omega)) _ | refine Below.trans ?_ (Below.mono (by assumption) (by first | omega | (simp; done) | (simp; omega)))))⟩

set_option maxHeartbeats 400000 in
theorem rof_neg (n : Int) (w : World) (hn : n < 0) :
    Calls Try.prog 13 #[.int .i64 n] w fun e w' => e = .returned (.tuple #[.agg #[.int .u64 0, .int .u64 0], .int .i64 3]) ∧ Below w.heap.size w w' := by
  go_enter Try.func13, Try.ntmps13
  go_wp2
  exact bodyPost_ret (v := .tuple #[.agg #[.int .u64 0, .int .u64 0], .int .i64 3]) (by simp [results, Try.results13, go_sem]) rfl ⟨rfl, (by repeat (first | assumption | exact Below.refl _ _ | refine Below.setCell ?_ (by first | omega | (simp; done) | (simp; omega)) _ | refine below_drewN ?_ _ | refine Below.drew ?_ | refine Below.alloc ?_ (by first | omega | (simp; done) | (simp; omega)) _ | refine Below.trans ?_ (Below.mono (by assumption) (by first | omega | (simp; done) | (simp; omega)))))⟩

set_option maxHeartbeats 400000 in
theorem rof_pos (n : Int) (w : World) (nl : 0 ≤ n) (nu : n ≤ 9223372036854775807) :
    Calls Try.prog 13 #[.int .i64 n] w fun e w' => e = .returned (.tuple #[.agg #[.int .u64 0, .int .u64 n], .int .i64 0]) ∧ Below w.heap.size w w' := by
  go_enter Try.func13, Try.ntmps13
  go_wp2
  exact bodyPost_ret (v := .tuple #[.agg #[.int .u64 0, .int .u64 n], .int .i64 0]) (by simp [results, Try.results13, go_sem]) rfl ⟨rfl, (by repeat (first | assumption | exact Below.refl _ _ | refine Below.setCell ?_ (by first | omega | (simp; done) | (simp; omega)) _ | refine below_drewN ?_ _ | refine Below.drew ?_ | refine Below.alloc ?_ (by first | omega | (simp; done) | (simp; omega)) _ | refine Below.trans ?_ (Below.mono (by assumption) (by first | omega | (simp; done) | (simp; omega)))))⟩

set_option maxHeartbeats 400000 in
theorem rcmp_any (ah al bh bl : Int) (w : World) (all : 0 ≤ al) (alu : al < 18446744073709551616) (bll : 0 ≤ bl) (blu : bl < 18446744073709551616) :
    Calls Try.prog 21 #[.agg #[.int .u64 ah, .int .u64 al], .agg #[.int .u64 bh, .int .u64 bl]] w fun e w' =>
      e = .returned (.int .i64 (cmpI (ah * 18446744073709551616 + al) (bh * 18446744073709551616 + bl))) ∧ Below w.heap.size w w' := by
  by_cases h : ah = bh
  · subst h
    by_cases h1 : al = bl
    · subst h1
      have hv : cmpI (ah * 18446744073709551616 + al) (ah * 18446744073709551616 + al) = 0 := by simp [cmpI]
      rw [hv]
      clear hv
      go_enter Try.func21, Try.ntmps21
      go_wp2
      go_ret
      exact ⟨rfl, (by repeat (first | assumption | exact Below.refl _ _ | refine Below.setCell ?_ (by first | omega | (simp; done) | (simp; omega)) _ | refine below_drewN ?_ _ | refine Below.drew ?_ | refine Below.alloc ?_ (by first | omega | (simp; done) | (simp; omega)) _ | refine Below.trans ?_ (Below.mono (by assumption) (by first | omega | (simp; done) | (simp; omega)))))⟩
    · have t1 : (al == bl) = false := by simp [h1]
      have t0 : (ah == ah) = true := by simp
      by_cases h2 : al < bl
      · have hv : cmpI (ah * 18446744073709551616 + al) (ah * 18446744073709551616 + bl) = -1 := by unfold cmpI; rw [if_pos (by omega)]
        rw [hv]
        clear hv h1
        go_enter Try.func21, Try.ntmps21
        go_wp2
        go_ret
        exact ⟨rfl, (by repeat (first | assumption | exact Below.refl _ _ | refine Below.setCell ?_ (by first | omega | (simp; done) | (simp; omega)) _ | refine below_drewN ?_ _ | refine Below.drew ?_ | refine Below.alloc ?_ (by first | omega | (simp; done) | (simp; omega)) _ | refine Below.trans ?_ (Below.mono (by assumption) (by first | omega | (simp; done) | (simp; omega)))))⟩
      · have hv : cmpI (ah * 18446744073709551616 + al) (ah * 18446744073709551616 + bl) = 1 := by unfold cmpI; rw [if_neg (by omega), if_pos (by omega)]
        rw [hv]
        clear hv h1
        go_enter Try.func21, Try.ntmps21
        go_wp2
        go_ret
        exact ⟨rfl, (by repeat (first | assumption | exact Below.refl _ _ | refine Below.setCell ?_ (by first | omega | (simp; done) | (simp; omega)) _ | refine below_drewN ?_ _ | refine Below.drew ?_ | refine Below.alloc ?_ (by first | omega | (simp; done) | (simp; omega)) _ | refine Below.trans ?_ (Below.mono (by assumption) (by first | omega | (simp; done) | (simp; omega)))))⟩
  · have t0 : (ah == bh) = false := by simp [h]
    by_cases h2 : ah < bh
    · have hv : cmpI (ah * 18446744073709551616 + al) (bh * 18446744073709551616 + bl) = -1 := by unfold cmpI; rw [if_pos (by omega)]
      rw [hv]
      clear hv h
      go_enter Try.func21, Try.ntmps21
      go_wp2
      go_ret
      exact ⟨rfl, (by repeat (first | assumption | exact Below.refl _ _ | refine Below.setCell ?_ (by first | omega | (simp; done) | (simp; omega)) _ | refine below_drewN ?_ _ | refine Below.drew ?_ | refine Below.alloc ?_ (by first | omega | (simp; done) | (simp; omega)) _ | refine Below.trans ?_ (Below.mono (by assumption) (by first | omega | (simp; done) | (simp; omega)))))⟩
    · have hv : cmpI (ah * 18446744073709551616 + al) (bh * 18446744073709551616 + bl) = 1 := by unfold cmpI; rw [if_neg (by omega), if_pos (by omega)]
      rw [hv]
      clear hv h
      go_enter Try.func21, Try.ntmps21
      go_wp2
      go_ret
      exact ⟨rfl, (by repeat (first | assumption | exact Below.refl _ _ | refine Below.setCell ?_ (by first | omega | (simp; done) | (simp; omega)) _ | refine below_drewN ?_ _ | refine Below.drew ?_ | refine Below.alloc ?_ (by first | omega | (simp; done) | (simp; omega)) _ | refine Below.trans ?_ (Below.mono (by assumption) (by first | omega | (simp; done) | (simp; omega)))))⟩

set_option maxHeartbeats 400000 in
theorem rclamp_any (ah al : Int) (w : World) (ahl : 0 ≤ ah) (all : 0 ≤ al) (alu : al < 18446744073709551616) :
    Calls Try.prog 23 #[.agg #[.int .u64 ah, .int .u64 al]] w fun e w' =>
      e = .returned (.int .i64 (clampN (ah * 18446744073709551616 + al))) ∧ Below w.heap.size w w' := by
  by_cases h : ah = 0
  · subst h
    by_cases h1 : al < 9223372036854775808
    · have hv : clampN (0 * 18446744073709551616 + al) = al := by unfold clampN; rw [if_pos (by omega)]; omega
      rw [hv]
      clear hv
      go_enter Try.func23, Try.ntmps23
      go_wp2
      go_ret
      exact ⟨rfl, (by repeat (first | assumption | exact Below.refl _ _ | refine Below.setCell ?_ (by first | omega | (simp; done) | (simp; omega)) _ | refine below_drewN ?_ _ | refine Below.drew ?_ | refine Below.alloc ?_ (by first | omega | (simp; done) | (simp; omega)) _ | refine Below.trans ?_ (Below.mono (by assumption) (by first | omega | (simp; done) | (simp; omega)))))⟩
    · have hv : clampN (0 * 18446744073709551616 + al) = 9223372036854775807 := by unfold clampN; rw [if_neg (by omega)]
      rw [hv]
      clear hv
      go_enter Try.func23, Try.ntmps23
      go_wp2
      go_ret
      exact ⟨rfl, (by repeat (first | assumption | exact Below.refl _ _ | refine Below.setCell ?_ (by first | omega | (simp; done) | (simp; omega)) _ | refine below_drewN ?_ _ | refine Below.drew ?_ | refine Below.alloc ?_ (by first | omega | (simp; done) | (simp; omega)) _ | refine Below.trans ?_ (Below.mono (by assumption) (by first | omega | (simp; done) | (simp; omega)))))⟩
  · have hv : clampN (ah * 18446744073709551616 + al) = 9223372036854775807 := by unfold clampN; rw [if_neg (by omega)]
    rw [hv]
    clear hv
    have t0 : 0 < ah := by omega
    clear h
    go_enter Try.func23, Try.ntmps23
    go_wp2
    go_ret
    exact ⟨rfl, (by repeat (first | assumption | exact Below.refl _ _ | refine Below.setCell ?_ (by first | omega | (simp; done) | (simp; omega)) _ | refine below_drewN ?_ _ | refine Below.drew ?_ | refine Below.alloc ?_ (by first | omega | (simp; done) | (simp; omega)) _ | refine Below.trans ?_ (Below.mono (by assumption) (by first | omega | (simp; done) | (simp; omega)))))⟩

set_option maxHeartbeats 400000 in
theorem rmore_neg (ah al n bh bl m : Int) (w : World) (h : n < 0 ∨ (¬ n < 0 ∧ m < 0)) :
    Calls Try.prog 26 #[.agg #[.int .u64 ah, .int .u64 al], .int .i64 n, .agg #[.int .u64 bh, .int .u64 bl], .int .i64 m] w fun e w' =>
      e = .returned (.tuple #[.bool false, .int .i64 3]) ∧ Below w.heap.size w w' := by
  rcases h with h | ⟨h, h'⟩
  · go_enter Try.func26, Try.ntmps26
    go_wp2
    go_ret2
    exact ⟨rfl, (by repeat (first | assumption | exact Below.refl _ _ | refine Below.setCell ?_ (by first | omega | (simp; done) | (simp; omega)) _ | refine below_drewN ?_ _ | refine Below.drew ?_ | refine Below.alloc ?_ (by first | omega | (simp; done) | (simp; omega)) _ | refine Below.trans ?_ (Below.mono (by assumption) (by first | omega | (simp; done) | (simp; omega)))))⟩
  · go_enter Try.func26, Try.ntmps26
    go_wp2
    go_ret2
    exact ⟨rfl, (by repeat (first | assumption | exact Below.refl _ _ | refine Below.setCell ?_ (by first | omega | (simp; done) | (simp; omega)) _ | refine below_drewN ?_ _ | refine Below.drew ?_ | refine Below.alloc ?_ (by first | omega | (simp; done) | (simp; omega)) _ | refine Below.trans ?_ (Below.mono (by assumption) (by first | omega | (simp; done) | (simp; omega)))))⟩


end WideR
end Go.Proofs.Ytefbgienbgcchaa
