/-
  Layer 1: WideRing, all of it.
-/
import Derived.Test.YtcokhdajdnkinaaWideM0
import Derived.Test.YtcokhdajdnkinaaWideM1
import Derived.Test.YtcokhdajdnkinaaWideM2
import Derived.Test.YtcokhdajdnkinaaWideM3
import Derived.Test.YtcokhdajdnkinaaWideM4
namespace Go.Proofs.Ytcokhdajdnkinaa
open Go.RowKit Go.Shelf
namespace WideN
open WideA WideB WideT WideI WideF WideG WideH WideK WideL WideM

/-- What a result holds, and its error. -/
def okV (V : Int) : Int := if V < 340282366920938463463374607431768211456 then V else 0
def errV (V : Int) : Int := if V < 340282366920938463463374607431768211456 then 0 else 7
theorem okV_in {V : Int} (h : V < 340282366920938463463374607431768211456) : okV V = V := by simp [okV, h]
theorem okV_out {V : Int} (h : ¬ V < 340282366920938463463374607431768211456) : okV V = 0 := by simp [okV, h]
theorem errV_in {V : Int} (h : V < 340282366920938463463374607431768211456) : errV V = 0 := by simp [errV, h]
theorem errV_out {V : Int} (h : ¬ V < 340282366920938463463374607431768211456) : errV V = 7 := by simp [errV, h]
theorem errV_zero {V : Int} (h : errV V = 0) : V < 340282366920938463463374607431768211456 := by
  by_cases q : V < 340282366920938463463374607431768211456
  · exact q
  · rw [errV_out q] at h; omega
theorem okV_bd (V : Int) (h : 0 ≤ V) : 0 ≤ okV V ∧ okV V < 340282366920938463463374607431768211456 := by unfold okV; split <;> omega
theorem wRes_form (V : Int) (h : 0 ≤ V) : wRes V = .tuple #[.agg #[.int .u64 (okV V / 18446744073709551616), .int .u64 (okV V % 18446744073709551616)], .int .i64 (errV V)] := by
  by_cases hV : V < 340282366920938463463374607431768211456
  · rw [wRes_ok h hV, okV_in hV, errV_in hV]
  · rw [wRes_full (by omega), okV_out hV, errV_out hV]
    rfl
theorem plusI (V U : Int) (W : World) (v0 : 0 ≤ V) (v1 : V < 340282366920938463463374607431768211456) (u0 : 0 ≤ U) (u1 : U < 340282366920938463463374607431768211456) :
    Calls Try.prog 14 #[.agg #[.int .u64 (V / 18446744073709551616), .int .u64 (V % 18446744073709551616)], .agg #[.int .u64 (U / 18446744073709551616), .int .u64 (U % 18446744073709551616)]] W fun e w' => e = .returned (.tuple #[.agg #[.int .u64 (okV (V + U) / 18446744073709551616), .int .u64 (okV (V + U) % 18446744073709551616)], .int .i64 (errV (V + U))]) ∧ Below W.heap.size W w' := by
  have C := plus_any (V / 18446744073709551616) (V % 18446744073709551616) (U / 18446744073709551616) (U % 18446744073709551616) W (by omega) (by omega) (by omega) (by omega) (by omega) (by omega) (by omega) (by omega)
  rw [show V / 18446744073709551616 * 18446744073709551616 + V % 18446744073709551616 = V by omega, show U / 18446744073709551616 * 18446744073709551616 + U % 18446744073709551616 = U by omega, wRes_form _ (by omega)] at C
  exact C
theorem timesI (V n : Int) (W : World) (v0 : 0 ≤ V) (v1 : V < 340282366920938463463374607431768211456) (n0 : 0 ≤ n) (n1 : n ≤ 9223372036854775807) :
    Calls Try.prog 16 #[.agg #[.int .u64 (V / 18446744073709551616), .int .u64 (V % 18446744073709551616)], .int .i64 n] W fun e w' => e = .returned (.tuple #[.agg #[.int .u64 (okV (V * n) / 18446744073709551616), .int .u64 (okV (V * n) % 18446744073709551616)], .int .i64 (errV (V * n))]) ∧ Below W.heap.size W w' := by
  have C := times_any (V / 18446744073709551616) (V % 18446744073709551616) n W (by omega) (by omega) (by omega) (by omega) n0 n1
  rw [show V / 18446744073709551616 * 18446744073709551616 + V % 18446744073709551616 = V by omega, wRes_form _ (Int.mul_nonneg v0 n0)] at C
  exact C
theorem cmpW (V U : Int) (W : World) :
    Calls Try.prog 20 #[.agg #[.int .u64 (V / 18446744073709551616), .int .u64 (V % 18446744073709551616)], .agg #[.int .u64 (U / 18446744073709551616), .int .u64 (U % 18446744073709551616)]] W fun e w' => e = .returned (.int .i64 (cmpI V U)) ∧ Below W.heap.size W w' := by
  have C := wcmp_any (V / 18446744073709551616) (V % 18446744073709551616) (U / 18446744073709551616) (U % 18446744073709551616) W (by omega) (by omega) (by omega) (by omega)
  rw [show V / 18446744073709551616 * 18446744073709551616 + V % 18446744073709551616 = V by omega, show U / 18446744073709551616 * 18446744073709551616 + U % 18446744073709551616 = U by omega] at C
  exact C
theorem cmp_ge {V U : Int} (h : U ≤ V) : decide (cmpI V U < 0) = false := by
  unfold cmpI
  rw [if_neg (by omega)]
  split <;> rfl

theorem last (A n1 m1 : Int) (a0 : 0 ≤ A) (_ : A < 340282366920938463463374607431768211456) (nl : 0 ≤ n1) (nu : n1 ≤ 9223372036854775807) (ml : 0 ≤ m1) (_ : m1 ≤ 9223372036854775807) (s : Int) (hs : errV (A * n1) = 0 → s = A * n1) :
    errV (A * n1) = 0 → errV (s * m1) = 0 → 0 < n1 → 0 < m1 → errV (A * m1) = 0 ∧ ∀ W : World, Calls Try.prog 16 #[.agg #[.int .u64 (okV (A * m1) / 18446744073709551616), .int .u64 (okV (A * m1) % 18446744073709551616)], .int .i64 n1] W fun e w' => e = .returned (.tuple #[.agg #[.int .u64 (okV (s * m1) / 18446744073709551616), .int .u64 (okV (s * m1) % 18446744073709551616)], .int .i64 0]) ∧ Below W.heap.size W w' := by
  intro h1 h2 h3 h4
  obtain rfl := hs h1
  have h5 := errV_zero h2
  have h6 : A * n1 * m1 = A * m1 * n1 := by rw [Int.mul_assoc, Int.mul_comm n1 m1, ← Int.mul_assoc]
  have h7 : 0 ≤ A * m1 := Int.mul_nonneg a0 ml
  have h8 : A * m1 ≤ A * m1 * n1 := by
    have := Int.mul_le_mul_of_nonneg_left (show 1 ≤ n1 by omega) h7
    rwa [Int.mul_one] at this
  have h9 : A * m1 < 340282366920938463463374607431768211456 := by omega
  refine ⟨errV_in h9, fun W => ?_⟩
  have C := timesI (A * m1) n1 W h7 h9 nl nu
  rw [okV_in h9]
  rw [← h6, errV_in h5] at C
  exact C

theorem ring_int (A D C n m : Int) (w : World) (a0 : 0 ≤ A) (a1 : A < 340282366920938463463374607431768211456) (d0 : 0 ≤ D) (d1 : D < 340282366920938463463374607431768211456) (c0 : 0 ≤ C) (c1 : C < 340282366920938463463374607431768211456) :
    Calls Try.prog 7 #[.agg #[.int .u64 (A / 18446744073709551616), .int .u64 (A % 18446744073709551616)], .agg #[.int .u64 (D / 18446744073709551616), .int .u64 (D % 18446744073709551616)], .agg #[.int .u64 (C / 18446744073709551616), .int .u64 (C % 18446744073709551616)], .int .i64 n, .int .i64 m] w fun e w' => e = .returned (.bool true) ∧ Below w.heap.size w w' := by
  obtain ⟨n1, en, nl, nu⟩ := ring63 n
  obtain ⟨m1, em, ml, mu⟩ := ring63 m
  have hAn : 0 ≤ A * n1 := Int.mul_nonneg a0 nl
  have hDn : 0 ≤ D * n1 := Int.mul_nonneg d0 nl
  by_cases hE : A + D < 340282366920938463463374607431768211456
  · by_cases hG : A + D + C < 340282366920938463463374607431768211456
    · by_cases hK : (A + D) * n1 < 340282366920938463463374607431768211456
      · have HP := fun W => plusI A D W a0 a1 d0 d1
        have HQ := fun W => plusI D A W d0 d1 a0 a1
        rw [Int.add_comm D A] at HQ
        have HX := fun W => plusI (A + D) C W (by omega) (by omega) c0 c1
        have HY := fun W => plusI D C W d0 d1 c0 c1
        have HS := fun W => timesI A n1 W a0 a1 nl nu
        have HT := fun W => timesI D n1 W d0 d1 nl nu
        have HU := fun W => timesI (A + D) n1 W (by omega) (by omega) nl nu
        have HW := fun W => timesI (okV (A * n1)) m1 W (okV_bd _ hAn).1 (okV_bd _ hAn).2 ml mu
        have HR := fun W => timesI A m1 W a0 a1 ml mu
        have HD := last A n1 m1 a0 a1 nl nu ml mu (okV (A * n1)) (fun h => okV_in (errV_zero h))
        rw [okV_in hE, errV_in hE] at HP HQ
        rw [okV_in hG, errV_in hG] at HX
        have hy : D + C < 340282366920938463463374607431768211456 := by omega
        rw [okV_in hy, errV_in hy] at HY
        have HZ := fun W => plusI A (D + C) W a0 a1 (by omega) hy
        rw [← Int.add_assoc, okV_in hG, errV_in hG] at HZ
        rw [Int.add_mul] at hK HU
        have h1 : A * n1 < 340282366920938463463374607431768211456 := by omega
        have h2 : D * n1 < 340282366920938463463374607431768211456 := by omega
        rw [okV_in hK, errV_in hK] at HU
        rw [errV_in h1] at HD
        rw [okV_in h1] at HW HD
        rw [okV_in h1, errV_in h1] at HS
        rw [okV_in h2, errV_in h2] at HT
        have HV := fun W => plusI (A * n1) (D * n1) W hAn h1 hDn h2
        rw [okV_in hK, errV_in hK] at HV
        exact ri0 (A / 18446744073709551616) (A % 18446744073709551616) (D / 18446744073709551616) (D % 18446744073709551616) (C / 18446744073709551616) (C % 18446744073709551616) n m n1 m1 ((A + D) / 18446744073709551616) ((A + D) % 18446744073709551616) (cmpI (A + D) A) (cmpI (A + D) D) ((A + D + C) / 18446744073709551616) ((A + D + C) % 18446744073709551616) 0 ((D + C) / 18446744073709551616) ((D + C) % 18446744073709551616) 0 ((A * n1) / 18446744073709551616) ((A * n1) % 18446744073709551616) 0 ((D * n1) / 18446744073709551616) ((D * n1) % 18446744073709551616) 0 ((A * n1 + D * n1) / 18446744073709551616) ((A * n1 + D * n1) % 18446744073709551616) 0 ((okV ((A * n1) * m1)) / 18446744073709551616) ((okV ((A * n1) * m1)) % 18446744073709551616) (errV ((A * n1) * m1)) ((okV (A * m1)) / 18446744073709551616) ((okV (A * m1)) % 18446744073709551616) (errV (A * m1)) w en em (hide HP) (hide HQ) (hide fun W => cmpW (A + D) A W) (hide fun W => cmpW (A + D) D W) (cmp_ge (by omega)) (cmp_ge (by omega)) (hide HX) (hide HY) (hide HZ) (hide HS) (hide HT) (hide HU) (hide HV) (hide HW) (hide HR) (hide fun _ => HD rfl)
      · have HP := fun W => plusI A D W a0 a1 d0 d1
        have HQ := fun W => plusI D A W d0 d1 a0 a1
        rw [Int.add_comm D A] at HQ
        have HX := fun W => plusI (A + D) C W (by omega) (by omega) c0 c1
        have HY := fun W => plusI D C W d0 d1 c0 c1
        have HS := fun W => timesI A n1 W a0 a1 nl nu
        have HT := fun W => timesI D n1 W d0 d1 nl nu
        have HU := fun W => timesI (A + D) n1 W (by omega) (by omega) nl nu
        have HW := fun W => timesI (okV (A * n1)) m1 W (okV_bd _ hAn).1 (okV_bd _ hAn).2 ml mu
        have HR := fun W => timesI A m1 W a0 a1 ml mu
        have HD := last A n1 m1 a0 a1 nl nu ml mu (okV (A * n1)) (fun h => okV_in (errV_zero h))
        rw [okV_in hE, errV_in hE] at HP HQ
        rw [okV_in hG, errV_in hG] at HX
        have hy : D + C < 340282366920938463463374607431768211456 := by omega
        rw [okV_in hy, errV_in hy] at HY
        have HZ := fun W => plusI A (D + C) W a0 a1 (by omega) hy
        rw [← Int.add_assoc, okV_in hG, errV_in hG] at HZ
        rw [okV_out hK, errV_out hK] at HU
        exact ri1 (A / 18446744073709551616) (A % 18446744073709551616) (D / 18446744073709551616) (D % 18446744073709551616) (C / 18446744073709551616) (C % 18446744073709551616) n m n1 m1 ((A + D) / 18446744073709551616) ((A + D) % 18446744073709551616) (cmpI (A + D) A) (cmpI (A + D) D) ((A + D + C) / 18446744073709551616) ((A + D + C) % 18446744073709551616) 0 ((D + C) / 18446744073709551616) ((D + C) % 18446744073709551616) 0 ((okV (A * n1)) / 18446744073709551616) ((okV (A * n1)) % 18446744073709551616) (errV (A * n1)) ((okV (D * n1)) / 18446744073709551616) ((okV (D * n1)) % 18446744073709551616) (errV (D * n1)) (0 / 18446744073709551616) (0 % 18446744073709551616) 7 ((okV ((okV (A * n1)) * m1)) / 18446744073709551616) ((okV ((okV (A * n1)) * m1)) % 18446744073709551616) (errV ((okV (A * n1)) * m1)) ((okV (A * m1)) / 18446744073709551616) ((okV (A * m1)) % 18446744073709551616) (errV (A * m1)) w en em (hide HP) (hide HQ) (hide fun W => cmpW (A + D) A W) (hide fun W => cmpW (A + D) D W) (cmp_ge (by omega)) (cmp_ge (by omega)) (hide HX) (hide HY) (hide HZ) (hide HS) (hide HT) (hide HU) (hide HW) (hide HR) (hide HD)
    · by_cases hK : (A + D) * n1 < 340282366920938463463374607431768211456
      · have HP := fun W => plusI A D W a0 a1 d0 d1
        have HQ := fun W => plusI D A W d0 d1 a0 a1
        rw [Int.add_comm D A] at HQ
        have HX := fun W => plusI (A + D) C W (by omega) (by omega) c0 c1
        have HY := fun W => plusI D C W d0 d1 c0 c1
        have HS := fun W => timesI A n1 W a0 a1 nl nu
        have HT := fun W => timesI D n1 W d0 d1 nl nu
        have HU := fun W => timesI (A + D) n1 W (by omega) (by omega) nl nu
        have HW := fun W => timesI (okV (A * n1)) m1 W (okV_bd _ hAn).1 (okV_bd _ hAn).2 ml mu
        have HR := fun W => timesI A m1 W a0 a1 ml mu
        have HD := last A n1 m1 a0 a1 nl nu ml mu (okV (A * n1)) (fun h => okV_in (errV_zero h))
        rw [okV_in hE, errV_in hE] at HP HQ
        rw [okV_out hG, errV_out hG] at HX
        rw [Int.add_mul] at hK HU
        have h1 : A * n1 < 340282366920938463463374607431768211456 := by omega
        have h2 : D * n1 < 340282366920938463463374607431768211456 := by omega
        rw [okV_in hK, errV_in hK] at HU
        rw [errV_in h1] at HD
        rw [okV_in h1] at HW HD
        rw [okV_in h1, errV_in h1] at HS
        rw [okV_in h2, errV_in h2] at HT
        have HV := fun W => plusI (A * n1) (D * n1) W hAn h1 hDn h2
        rw [okV_in hK, errV_in hK] at HV
        exact ri2 (A / 18446744073709551616) (A % 18446744073709551616) (D / 18446744073709551616) (D % 18446744073709551616) (C / 18446744073709551616) (C % 18446744073709551616) n m n1 m1 ((A + D) / 18446744073709551616) ((A + D) % 18446744073709551616) (cmpI (A + D) A) (cmpI (A + D) D) (0 / 18446744073709551616) (0 % 18446744073709551616) 7 ((okV (D + C)) / 18446744073709551616) ((okV (D + C)) % 18446744073709551616) (errV (D + C)) ((A * n1) / 18446744073709551616) ((A * n1) % 18446744073709551616) 0 ((D * n1) / 18446744073709551616) ((D * n1) % 18446744073709551616) 0 ((A * n1 + D * n1) / 18446744073709551616) ((A * n1 + D * n1) % 18446744073709551616) 0 ((okV ((A * n1) * m1)) / 18446744073709551616) ((okV ((A * n1) * m1)) % 18446744073709551616) (errV ((A * n1) * m1)) ((okV (A * m1)) / 18446744073709551616) ((okV (A * m1)) % 18446744073709551616) (errV (A * m1)) w en em (hide HP) (hide HQ) (hide fun W => cmpW (A + D) A W) (hide fun W => cmpW (A + D) D W) (cmp_ge (by omega)) (cmp_ge (by omega)) (hide HX) (hide HY) (hide HS) (hide HT) (hide HU) (hide HV) (hide HW) (hide HR) (hide fun _ => HD rfl)
      · have HP := fun W => plusI A D W a0 a1 d0 d1
        have HQ := fun W => plusI D A W d0 d1 a0 a1
        rw [Int.add_comm D A] at HQ
        have HX := fun W => plusI (A + D) C W (by omega) (by omega) c0 c1
        have HY := fun W => plusI D C W d0 d1 c0 c1
        have HS := fun W => timesI A n1 W a0 a1 nl nu
        have HT := fun W => timesI D n1 W d0 d1 nl nu
        have HU := fun W => timesI (A + D) n1 W (by omega) (by omega) nl nu
        have HW := fun W => timesI (okV (A * n1)) m1 W (okV_bd _ hAn).1 (okV_bd _ hAn).2 ml mu
        have HR := fun W => timesI A m1 W a0 a1 ml mu
        have HD := last A n1 m1 a0 a1 nl nu ml mu (okV (A * n1)) (fun h => okV_in (errV_zero h))
        rw [okV_in hE, errV_in hE] at HP HQ
        rw [okV_out hG, errV_out hG] at HX
        rw [okV_out hK, errV_out hK] at HU
        exact ri3 (A / 18446744073709551616) (A % 18446744073709551616) (D / 18446744073709551616) (D % 18446744073709551616) (C / 18446744073709551616) (C % 18446744073709551616) n m n1 m1 ((A + D) / 18446744073709551616) ((A + D) % 18446744073709551616) (cmpI (A + D) A) (cmpI (A + D) D) (0 / 18446744073709551616) (0 % 18446744073709551616) 7 ((okV (D + C)) / 18446744073709551616) ((okV (D + C)) % 18446744073709551616) (errV (D + C)) ((okV (A * n1)) / 18446744073709551616) ((okV (A * n1)) % 18446744073709551616) (errV (A * n1)) ((okV (D * n1)) / 18446744073709551616) ((okV (D * n1)) % 18446744073709551616) (errV (D * n1)) (0 / 18446744073709551616) (0 % 18446744073709551616) 7 ((okV ((okV (A * n1)) * m1)) / 18446744073709551616) ((okV ((okV (A * n1)) * m1)) % 18446744073709551616) (errV ((okV (A * n1)) * m1)) ((okV (A * m1)) / 18446744073709551616) ((okV (A * m1)) % 18446744073709551616) (errV (A * m1)) w en em (hide HP) (hide HQ) (hide fun W => cmpW (A + D) A W) (hide fun W => cmpW (A + D) D W) (cmp_ge (by omega)) (cmp_ge (by omega)) (hide HX) (hide HY) (hide HS) (hide HT) (hide HU) (hide HW) (hide HR) (hide HD)
  · have HP := fun W => plusI A D W a0 a1 d0 d1
    have HQ := fun W => plusI D A W d0 d1 a0 a1
    rw [Int.add_comm D A] at HQ
    have HX := fun W => plusI 0 C W (by decide) (by decide) c0 c1
    have HY := fun W => plusI D C W d0 d1 c0 c1
    have HS := fun W => timesI A n1 W a0 a1 nl nu
    have HT := fun W => timesI D n1 W d0 d1 nl nu
    have HU := fun W => timesI 0 n1 W (by decide) (by decide) nl nu
    have HW := fun W => timesI (okV (A * n1)) m1 W (okV_bd _ hAn).1 (okV_bd _ hAn).2 ml mu
    have HR := fun W => timesI A m1 W a0 a1 ml mu
    have HD := last A n1 m1 a0 a1 nl nu ml mu (okV (A * n1)) (fun h => okV_in (errV_zero h))
    rw [okV_out hE, errV_out hE] at HP HQ
    exact ri4 (A / 18446744073709551616) (A % 18446744073709551616) (D / 18446744073709551616) (D % 18446744073709551616) (C / 18446744073709551616) (C % 18446744073709551616) n m n1 m1 (0 / 18446744073709551616) (0 % 18446744073709551616) (cmpI (A + D) A) (cmpI (A + D) D) ((okV (0 + C)) / 18446744073709551616) ((okV (0 + C)) % 18446744073709551616) (errV (0 + C)) ((okV (D + C)) / 18446744073709551616) ((okV (D + C)) % 18446744073709551616) (errV (D + C)) ((okV (A * n1)) / 18446744073709551616) ((okV (A * n1)) % 18446744073709551616) (errV (A * n1)) ((okV (D * n1)) / 18446744073709551616) ((okV (D * n1)) % 18446744073709551616) (errV (D * n1)) ((okV (0 * n1)) / 18446744073709551616) ((okV (0 * n1)) % 18446744073709551616) (errV (0 * n1)) ((okV ((okV (A * n1)) * m1)) / 18446744073709551616) ((okV ((okV (A * n1)) * m1)) % 18446744073709551616) (errV ((okV (A * n1)) * m1)) ((okV (A * m1)) / 18446744073709551616) ((okV (A * m1)) % 18446744073709551616) (errV (A * m1)) w en em (hide HP) (hide HQ) (hide HX) (hide HY) (hide HS) (hide HT) (hide HU) (hide HW) (hide HR) (hide HD)

theorem ring_any (ah al bh bl ch cl n m : Int) (w : World) (ahl : 0 ≤ ah) (ahu : ah < 18446744073709551616) (all : 0 ≤ al) (alu : al < 18446744073709551616) (bhl : 0 ≤ bh) (bhu : bh < 18446744073709551616) (bll : 0 ≤ bl) (blu : bl < 18446744073709551616) (chl : 0 ≤ ch) (chu : ch < 18446744073709551616) (cll : 0 ≤ cl) (clu : cl < 18446744073709551616) :
    Calls Try.prog 7 #[.agg #[.int .u64 ah, .int .u64 al], .agg #[.int .u64 bh, .int .u64 bl], .agg #[.int .u64 ch, .int .u64 cl], .int .i64 n, .int .i64 m] w fun e w' => e = .returned (.bool true) ∧ Below w.heap.size w w' := by
  have C := ring_int (ah * 18446744073709551616 + al) (bh * 18446744073709551616 + bl) (ch * 18446744073709551616 + cl) n m w (by omega) (by omega) (by omega) (by omega) (by omega) (by omega)
  have q : ∀ h l : Int, 0 ≤ l → l < 18446744073709551616 → (h * 18446744073709551616 + l) / 18446744073709551616 = h ∧ (h * 18446744073709551616 + l) % 18446744073709551616 = l := fun h l h0 h1 => by omega
  rw [(q ah al all alu).1, (q ah al all alu).2, (q bh bl bll blu).1, (q bh bl bll blu).2, (q ch cl cll clu).1, (q ch cl cll clu).2] at C
  exact C
end WideN
end Go.Proofs.Ytcokhdajdnkinaa
