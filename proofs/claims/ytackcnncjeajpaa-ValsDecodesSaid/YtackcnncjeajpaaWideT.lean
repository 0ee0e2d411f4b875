/-
  The digits of a wide: division by ten, the iterator of digits, Text.
-/
import Derived.Test.YtackcnncjeajpaaWideB
namespace Go.Proofs.Ytackcnncjeajpaa
open Go.RowKit Go.Shelf
namespace WideT
open WideA WideB

set_option maxRecDepth 100000 in
set_option maxHeartbeats 400000 in
theorem lz10 (w : World) : Calls Try.prog 203 #[.int .u64 10] w fun e w' => e = .returned (.int .i64 60) ∧ w' = w := by
  go_enter Try.func203, Try.ntmps203
  go_wp2
  go_ret
  exact ⟨by kernel_rfl, rfl⟩

theorem or_split (a b : Int) (ha : 0 ≤ a) (ha' : a < 16) (hb : 0 ≤ b) (hb' : b < 1152921504606846976) : bits .or .u64 (a * 1152921504606846976) b = a * 1152921504606846976 + b := by
  rw [u64_or _ _ (by omega) (by omega) hb (by omega)]
  obtain ⟨a, rfl⟩ := Int.eq_ofNat_of_zero_le ha
  obtain ⟨b, rfl⟩ := Int.eq_ofNat_of_zero_le hb
  have h := Nat.two_pow_add_eq_or_of_lt (i := 60) (b := b) (by omega) a
  have e : ((a : Int) * 1152921504606846976).toNat = 2 ^ 60 * a := by omega
  rw [e, Int.toNat_natCast, ← h]
  omega

set_option maxHeartbeats 1000000 in
theorem div10_0 (lo : Int) (w : World) (lol : 0 ≤ lo) (lou : lo < 18446744073709551616) :
    Calls Try.prog 201 #[.int .u64 0, .int .u64 lo, .int .u64 10] w fun e w' => e = .returned (.tuple #[.int .u64 (lo / 10), .int .u64 (lo % 10)]) ∧ ∃ n, w' = w.drewN n := by
  go_enter Try.func201, Try.ntmps201
  go_wp2
  go_quiet (fail)
  go_wp2
  go_ret2
  exact ⟨rfl, _, rfl⟩

set_option maxHeartbeats 1000000 in
theorem div10 (hi lo : Int) (w : World) (h0 : 0 < hi) (h1 : hi < 10) (lol : 0 ≤ lo) (lou : lo < 18446744073709551616) :
    Calls Try.prog 201 #[.int .u64 hi, .int .u64 lo, .int .u64 10] w fun e w' => e = .returned (.tuple #[.int .u64 ((hi * 18446744073709551616 + lo) / 10), .int .u64 ((hi * 18446744073709551616 + lo) % 10)]) ∧ w' = w := by
  have t0 : (hi == 0) = false := by simp; omega
  have b1 : bits .and .u64 11529215046068469760 4294967295 = 0 := by decide
  obtain ⟨U, eU⟩ : ∃ U, U = hi * 1152921504606846976 + lo / 16 := ⟨_, rfl⟩
  obtain ⟨V, eV⟩ : ∃ V, V = lo % 16 * 1152921504606846976 := ⟨_, rfl⟩
  have b2 : bits .or .u64 (hi * 1152921504606846976) (lo / 16) = U := by rw [or_split _ _ (by omega) (by omega) (by omega) (by omega)]; omega
  have b3 : IntKind.u64.wrap (lo * 1152921504606846976) = V := by rw [IntKind.wrap_u64]; omega
  have b4 : bits .and .u64 V 4294967295 = 0 := by
    have h := Mul64.maskN V.toNat (by omega)
    rw [Int.toNat_of_nonneg (by omega)] at h
    rw [h]
    omega
  have u1 : 0 ≤ U ∧ U < 11529215046068469760 := by omega
  obtain ⟨u1, u2⟩ := u1
  have v1 : 0 ≤ V ∧ V < 18446744073709551616 := by omega
  obtain ⟨v1, v2⟩ := v1
  obtain ⟨Q1, eQ⟩ : ∃ x, x = U / 2684354560 := ⟨_, rfl⟩
  obtain ⟨R, eR⟩ : ∃ x, x = U % 2684354560 := ⟨_, rfl⟩
  obtain ⟨S, eS⟩ : ∃ x, x = V / 4294967296 := ⟨_, rfl⟩
  obtain ⟨Z, eZ⟩ : ∃ x, x = R * 4294967296 + S := ⟨_, rfl⟩
  obtain ⟨Q0, eP⟩ : ∃ x, x = Z / 2684354560 := ⟨_, rfl⟩
  obtain ⟨R0, eT⟩ : ∃ x, x = Z % 2684354560 := ⟨_, rfl⟩
  have q1 : (hi * 18446744073709551616 + lo) / 10 = Q1 * 4294967296 + Q0 := by omega
  have q2 : (hi * 18446744073709551616 + lo) % 10 = R0 / 268435456 := by omega
  rw [q1, q2]
  clear q1 q2
  obtain ⟨p1, p2⟩ : 0 ≤ Q1 ∧ Q1 < 4294967296 := by omega
  obtain ⟨p3, p4⟩ : 0 ≤ R ∧ R < 2684354560 := by omega
  obtain ⟨p5, p6⟩ : 0 ≤ S ∧ S < 4294967296 := by omega
  obtain ⟨p7, p8⟩ : 0 ≤ Z ∧ Z < 11529215046068469760 := by omega
  obtain ⟨p9, p10⟩ : 0 ≤ Q0 ∧ Q0 < 4294967296 := by omega
  obtain ⟨p11, p12⟩ : 0 ≤ R0 ∧ R0 < 2684354560 := by omega
  have r1 : U / 2684354560 = Q1 := eQ.symm
  have r2 : U - Q1 * 2684354560 = R := by omega
  have r3 : V / 4294967296 = S := eS.symm
  have r4 : IntKind.u64.wrap (IntKind.u64.wrap (IntKind.u64.wrap (U * 4294967296) + S) - IntKind.u64.wrap (Q1 * 11529215046068469760)) = Z := by
    simp only [IntKind.wrap_u64]; omega
  have r5 : Z / 2684354560 = Q0 := eP.symm
  have r6 : Z - Q0 * 2684354560 = R0 := by omega
  have fin : IntKind.u64.wrap (IntKind.u64.wrap (IntKind.u64.wrap (Z * 4294967296)) - IntKind.u64.wrap (Q0 * 11529215046068469760)) / 1152921504606846976 = R0 / 268435456 := by
    simp only [IntKind.wrap_u64]; omega
  have FIN := hide fin
  clear fin eQ eR eS eZ eP eT
  have HU := hide eU
  have HV := hide eV
  clear eU eV
  go_enter Try.func201, Try.ntmps201
  go_wp2_with fail
  refine (lz10 _).mono ?_
  rintro e w1 ⟨rfl, hw⟩
  subst hw
  go_wp2_with fail
  refine wp_loop_rounds 1 ?_; rw [rounds_succ]
  go_wp2_with fail
  refine wp_loop_rounds 1 ?_; rw [rounds_succ]
  go_wp2_with fail
  go_ret2
  rw [← FIN.out]
  exact ⟨rfl, rfl⟩

set_option maxHeartbeats 400000 in
/-- wide.tenth: a tenth, and what is left. -/
theorem tenth_any (hi lo : Int) (w : World) (hil : 0 ≤ hi) (hiu : hi < 18446744073709551616) (lol : 0 ≤ lo) (lou : lo < 18446744073709551616) :
    Calls Try.prog 194 #[.agg #[.int .u64 hi, .int .u64 lo]] w fun e w' =>
      e = .returned (.tuple #[.agg #[.int .u64 ((hi * 18446744073709551616 + lo) / 10 / 18446744073709551616), .int .u64 ((hi * 18446744073709551616 + lo) / 10 % 18446744073709551616)], .int .u8 ((hi * 18446744073709551616 + lo) % 10)]) ∧ Below w.heap.size w w' := by
  obtain ⟨h, eh⟩ : ∃ x, x = hi % 10 := ⟨_, rfl⟩
  obtain ⟨k, ek⟩ : ∃ x, x = hi / 10 := ⟨_, rfl⟩
  obtain ⟨q, eq⟩ : ∃ x, x = (h * 18446744073709551616 + lo) / 10 := ⟨_, rfl⟩
  obtain ⟨r, er⟩ : ∃ x, x = (h * 18446744073709551616 + lo) % 10 := ⟨_, rfl⟩
  have g1 : (hi * 18446744073709551616 + lo) / 10 / 18446744073709551616 = k := by omega
  have g2 : (hi * 18446744073709551616 + lo) / 10 % 18446744073709551616 = q := by omega
  have g3 : (hi * 18446744073709551616 + lo) % 10 = r := by omega
  rw [g1, g2, g3]
  clear g1 g2 g3
  have D : ∀ W : World, Calls Try.prog 201 #[.int .u64 h, .int .u64 lo, .int .u64 10] W fun e w' => e = .returned (.tuple #[.int .u64 q, .int .u64 r]) ∧ ∃ n, w' = W.drewN n := by
    intro W
    by_cases hh : h = 0
    · rw [hh, Int.zero_mul, Int.zero_add] at eq er
      rw [hh, eq, er]
      exact div10_0 lo W lol lou
    · rw [eq, er]
      refine (div10 h lo W (by omega) (by omega) lol lou).mono ?_
      rintro e w' ⟨rfl, rfl⟩
      exact ⟨rfl, 0, rfl⟩
  have HD := hide D
  have r1 : hi % 10 = h := eh.symm
  have r2 : hi / 10 = k := ek.symm
  obtain ⟨b1, b2⟩ : 0 ≤ r ∧ r < 10 := by omega
  clear D eh ek eq er
  go_enter Try.func194, Try.ntmps194
  go_wp2_with fail
  refine (HD.out _).mono ?_
  rintro e w1 ⟨rfl, n, rfl⟩
  go_wp2
  exact bodyPost_ret (v := .tuple #[.agg #[.int .u64 k, .int .u64 q], .int .u8 r]) (by simp [results, Try.results194, go_sem]) rfl ⟨rfl, (by repeat (first | assumption | exact Below.refl _ _ | refine Below.setCell ?_ (by first | omega | (simp; done) | (simp; omega)) _ | refine below_drewN ?_ _ | refine Below.drew ?_ | refine Below.alloc ?_ (by first | omega | (simp; done) | (simp; omega)) _ | refine Below.trans ?_ (Below.mono (by assumption) (by first | omega | (simp; done) | (simp; omega)))))⟩

end WideT
end Go.Proofs.Ytackcnncjeajpaa
