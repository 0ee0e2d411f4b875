/-
  Layer 2's law on what is smoothed: PaceStays.
-/
import Derived.Test.YtoamiedaeofcaaaPaceL
import Derived.Laws.BitsAllLaws
namespace Go.Proofs.Ytoamiedaeofcaaa
namespace PaceQ
open Go.RowKit Go.Shelf
open FltR FltC PaceA PaceB PaceC PaceD PaceE PaceG PaceF PaceK PaceL HexM

theorem andNot63 (x : Nat) (hx : x < 18446744073709551616) : bits .andNot .u64 (x : Int) 9223372036854775808 = ((rg x : Nat) : Int) := by
  have h := u64_andNot_nat x 9223372036854775808 hx (by omega)
  have e : x &&& (18446744073709551615 - 9223372036854775808) = x % 9223372036854775808 := Nat.and_two_pow_sub_one_eq_mod x 63
  rw [e] at h
  exact h
set_option maxHeartbeats 400000 in
theorem abs_any (x : Nat) (w : World) (hx : x < 18446744073709551616) : Calls Try.prog 51 #[.float .f64 x] w fun e w' => e = .returned (.float .f64 (rg x)) ∧ w = w' := by
  have a := andNot63 x hx
  have h1 := fbits x
  have h2 := ffrom (rg x)
  generalize rg x = r at *
  clear hx
  go_enter Try.func51, Try.ntmps51
  go_wp2
  go_ret
  exact ⟨rfl, rfl⟩
/-- Is a word an infinity's? -/
def isI (x : Nat) : Bool := decide (rg x = 9218868437227405312)
theorem fin_of {x : Nat} (h : isN x = false) (k : isI x = false) : rg x < 9218868437227405312 := by
  have := isN_false h
  have : ¬ rg x = 9218868437227405312 := by simpa [isI] using k
  omega
theorem rg_rg (x : Nat) : rg (rg x) = rg x := Nat.mod_eq_of_lt (rg_lt x)
theorem ng_rg (x : Nat) : ng (rg x) = false := by
  unfold ng
  rw [Nat.div_eq_of_lt (rg_lt x)]; rfl
theorem gt_max (x : Nat) : (FloatKind.f64.format.order (rg x) 9218868437227405311 == some .gt) = isI x := by
  have m1 : isN 9218868437227405311 = false := by decide
  have m2 : key 9218868437227405311 = 9218868437227405311 := by decide
  unfold isI
  cases h : isN (rg x) with
  | true =>
    rw [ord_none (.inl h)]
    have := isN_true h
    rw [rg_rg] at this
    symm; simp; omega
  | false =>
    have h1 := isN_false h
    rw [rg_rg] at h1
    have hk : key (rg x) = (rg x : Int) := by rw [key_eq, ng_rg, rg_rg]; rfl
    rcases ord_ways h m1 with ⟨a, _, k, _⟩ | ⟨a, _, k, _⟩ | ⟨a, _, k, _⟩ <;> rw [a] <;> rw [hk, m2] at k
    · symm; show decide (rg x = 9218868437227405312) = false; simp; omega
    · symm; show decide (rg x = 9218868437227405312) = true; simp; omega
    · symm; show decide (rg x = 9218868437227405312) = false; simp; omega
set_option maxHeartbeats 400000 in
theorem isinf_any (x : Nat) (w : World) (hx : x < 18446744073709551616) : Calls Try.prog 37 #[.float .f64 x, .int .i64 0] w fun e w' => e = .returned (.bool (isI x)) ∧ w = w' := by
  have A := hide (fun W => abs_any x W hx)
  have g := gt_max x
  generalize rg x = r at *
  generalize isI x = i at *
  clear hx
  go_enter Try.func37, Try.ntmps37
  go_wp2_with fail
  refine (A.out _).mono ?_
  rintro e w1 ⟨rfl, rfl⟩
  go_wp2
  go_ret
  exact ⟨rfl, rfl⟩
theorem isinf_is (x : Nat) (i : Bool) (w : World) (hx : x < 18446744073709551616) (h : isI x = i) : Calls Try.prog 37 #[.float .f64 x, .int .i64 0] w fun e w' => e = .returned (.bool i) ∧ w = w' := h ▸ isinf_any x w hx

section
variable {P : Program}
theorem min_lt {x y : Nat} (ts : Array TypeId) (t : TypeId) (w : World) (h : FloatKind.f64.format.order x y = some .lt) : (Builtin.min_ ts t #[.float .f64 x, .float .f64 y]).run P w = .ok (.float .f64 x) w := by simp [Builtin.min_, Builtin.min2, h]
theorem min_gt {x y : Nat} (ts : Array TypeId) (t : TypeId) (w : World) (h : FloatKind.f64.format.order x y = some .gt) : (Builtin.min_ ts t #[.float .f64 x, .float .f64 y]).run P w = .ok (.float .f64 y) w := by simp [Builtin.min_, Builtin.min2, h]
theorem min_eq {x y : Nat} (ts : Array TypeId) (t : TypeId) (w : World) (h : FloatKind.f64.format.order x y = some .eq) : (Builtin.min_ ts t #[.float .f64 x, .float .f64 y]).run P w = .ok (.float .f64 (if (FloatKind.f64.decode x).neg then x else y)) w := by simp [Builtin.min_, Builtin.min2, h]
theorem max_lt {x y : Nat} (ts : Array TypeId) (t : TypeId) (w : World) (h : FloatKind.f64.format.order x y = some .lt) : (Builtin.max_ ts t #[.float .f64 x, .float .f64 y]).run P w = .ok (.float .f64 y) w := by simp [Builtin.max_, Builtin.max2, h]
theorem max_gt {x y : Nat} (ts : Array TypeId) (t : TypeId) (w : World) (h : FloatKind.f64.format.order x y = some .gt) : (Builtin.max_ ts t #[.float .f64 x, .float .f64 y]).run P w = .ok (.float .f64 x) w := by simp [Builtin.max_, Builtin.max2, h]
theorem max_eq {x y : Nat} (ts : Array TypeId) (t : TypeId) (w : World) (h : FloatKind.f64.format.order x y = some .eq) : (Builtin.max_ ts t #[.float .f64 x, .float .f64 y]).run P w = .ok (.float .f64 (if (FloatKind.f64.decode x).neg then y else x)) w := by simp [Builtin.max_, Builtin.max2, h]
end
/-- The lesser and the greater one of two numbers. -/
theorem min_max {x y : Nat} (hx : isN x = false) (hy : isN y = false) : ∃ a b : Nat, isN a = false ∧ isN b = false ∧
    (∀ (P : Program) ts t (w : World), (Builtin.min_ ts t #[.float .f64 x, .float .f64 y]).run P w = .ok (.float .f64 a) w) ∧ (∀ (P : Program) ts t (w : World), (Builtin.max_ ts t #[.float .f64 x, .float .f64 y]).run P w = .ok (.float .f64 b) w) ∧
    ((key x ≤ key y ∧ key a = key x ∧ key b = key y) ∨ (key y ≤ key x ∧ key a = key y ∧ key b = key x)) := by
  rcases ord_ways hx hy with ⟨a, _, k, _⟩ | ⟨a, _, k, _⟩ | ⟨a, _, k, _⟩
  · exact ⟨x, y, hx, hy, fun _ ts t w => min_lt ts t w a, fun _ ts t w => max_lt ts t w a, .inl ⟨by omega, rfl, rfl⟩⟩
  · exact ⟨y, x, hy, hx, fun _ ts t w => min_gt ts t w a, fun _ ts t w => max_gt ts t w a, .inr ⟨by omega, rfl, rfl⟩⟩
  · refine ⟨_, _, ?_, ?_, fun _ ts t w => min_eq ts t w a, fun _ ts t w => max_eq ts t w a, .inl ⟨by omega, ?_, ?_⟩⟩ <;> split <;> first | assumption | rfl | omega

theorem ge_ways {z a : Nat} (hz : isN z = false) (ha : isN a = false) (h : key a ≤ key z) : FloatKind.f64.format.order z a = some .gt ∨ FloatKind.f64.format.order z a = some .eq := by
  rcases ord_ways hz ha with ⟨o, _, k, _⟩ | ⟨o, _, k, _⟩ | ⟨o, _, k, _⟩
  · omega
  · exact .inl o
  · exact .inr o
theorem le_ways {z a : Nat} (hz : isN z = false) (ha : isN a = false) (h : key z ≤ key a) : FloatKind.f64.format.order z a = some .lt ∨ FloatKind.f64.format.order z a = some .eq := by
  rcases ord_ways hz ha with ⟨o, _, k, _⟩ | ⟨o, _, k, _⟩ | ⟨o, _, k, _⟩
  · exact .inl o
  · omega
  · exact .inr o

/-- Of finite numbers whose difference is finite: what Smooth leaves is a number between both. -/
theorem sm_stays {x y d z : Nat} (hx : rg x < 9218868437227405312) (hy : rg y < 9218868437227405312) (hd : Ieee.double.sub y x = some d) (hf : rg d ≠ 9218868437227405312) (hs : Sm x y z) :
    isN z = false ∧ (key x ≤ key y → key x ≤ key z ∧ key z ≤ key y) ∧ (key y ≤ key x → key y ≤ key z ∧ key z ≤ key x) := by
  obtain ⟨e, z0, h1, h2, h3, h4, h5⟩ := stays hx hy hd hf
  have nx : isN x = false := by unfold isN; simp; omega
  have n0 : isN z0 = false := by unfold isN; simpa using h3
  have hsm : smooth x y = canon z0 := by
    unfold smooth
    rw [nx, hd]
    simp only [h1, h2]
    rfl
  have hc : canon z = canon z0 := hs.1.trans hsm
  have nz : isN z = false := by rw [isN_of_canon hc]; exact n0
  have : z = z0 := by
    have a : canon z = z := by unfold canon; rw [nz]; rfl
    have b : canon z0 = z0 := by unfold canon; rw [n0]; rfl
    rw [← a, ← b, hc]
  subst this
  exact ⟨nz, h4, h5⟩
theorem sub_self {x : Nat} (hx : rg x < 9218868437227405312) : ∃ d, Ieee.double.sub x x = some d ∧ rg d ≠ 9218868437227405312 := by
  obtain ⟨neg, h, _, _⟩ := sub_fin hx hx
  refine ⟨_, h, ?_⟩
  rw [Int.sub_self, rg_word _ (rs_le _ _)]
  decide
set_option maxRecDepth 100000 in
set_option maxHeartbeats 2000000 in
theorem st_a (x y : Nat) (w : World) (hx : x < 18446744073709551616) (hy : y < 18446744073709551616) (ix : isI x = true) :
    Calls Try.prog 9 #[.int .u64 (x : Int), .int .u64 (y : Int)] w fun e w' => e = .returned (.bool true) ∧ Below w.heap.size w w' := by
  have N1 := hide (fun W => psm_any 9221120237041090561 y W hy)
  have NC := hide (fun z W (hz : z < 18446744073709551616) (h : canon z = canon y) => cmp_c z y 0 W hz hy (cmp3_zero.2 ((rank_canon hz hy).2 h)))
  have K := hide known_any
  have hB := Below.refl w.heap.size w
  have I1 := hide (fun W => isinf_is x _ W hx ix)
  clear hx hy ix
  go_enter Try.func9, Try.ntmps9
  go_wp2_with fail
  refine (K.out _).mono ?_
  rintro e w1 ⟨rfl, hb⟩
  have hB := chain hB hb
  clear hb
  go_wp2_with fail
  refine (of_any x _).mono ?_
  rintro e w1 ⟨rfl, rfl⟩
  go_wp2_with fail
  refine (of_any y _).mono ?_
  rintro e w1 ⟨rfl, rfl⟩
  go_wp2_with fail
  refine (nan_any _).mono ?_
  rintro e w1 ⟨rfl, rfl⟩
  go_wp2_with fail
  refine (N1.out _).mono ?_
  rintro e w1 ⟨z0, rfl, s0, n0, h0⟩
  have hB := chain hB (below_of h0)
  have S0 := hide (show canon z0 = canon y from s0.1.trans (by unfold smooth; rw [show isN 9221120237041090561 = true by decide]; rfl))
  have S1 := hide s0.2
  clear h0 s0
  go_wp2_with fail
  refine (NC.out _ _ S1.out S0.out).mono ?_
  rintro e w1 ⟨rfl, hb⟩
  have hB := chain hB hb
  clear hb
  go_wp2_with fail
  refine (I1.out _).mono ?_
  rintro e w1 ⟨rfl, rfl⟩
  go_wp2
  go_ret
  exact ⟨rfl, hB⟩
set_option maxRecDepth 100000 in
set_option maxHeartbeats 2000000 in
theorem st_b (x y : Nat) (w : World) (hx : x < 18446744073709551616) (hy : y < 18446744073709551616) (ix : isI x = false) (iy : isI y = true) :
    Calls Try.prog 9 #[.int .u64 (x : Int), .int .u64 (y : Int)] w fun e w' => e = .returned (.bool true) ∧ Below w.heap.size w w' := by
  have N1 := hide (fun W => psm_any 9221120237041090561 y W hy)
  have NC := hide (fun z W (hz : z < 18446744073709551616) (h : canon z = canon y) => cmp_c z y 0 W hz hy (cmp3_zero.2 ((rank_canon hz hy).2 h)))
  have K := hide known_any
  have hB := Below.refl w.heap.size w
  have I1 := hide (fun W => isinf_is x _ W hx ix)
  have I2 := hide (fun W => isinf_is y _ W hy iy)
  clear hx hy ix iy
  go_enter Try.func9, Try.ntmps9
  go_wp2_with fail
  refine (K.out _).mono ?_
  rintro e w1 ⟨rfl, hb⟩
  have hB := chain hB hb
  clear hb
  go_wp2_with fail
  refine (of_any x _).mono ?_
  rintro e w1 ⟨rfl, rfl⟩
  go_wp2_with fail
  refine (of_any y _).mono ?_
  rintro e w1 ⟨rfl, rfl⟩
  go_wp2_with fail
  refine (nan_any _).mono ?_
  rintro e w1 ⟨rfl, rfl⟩
  go_wp2_with fail
  refine (N1.out _).mono ?_
  rintro e w1 ⟨z0, rfl, s0, n0, h0⟩
  have hB := chain hB (below_of h0)
  have S0 := hide (show canon z0 = canon y from s0.1.trans (by unfold smooth; rw [show isN 9221120237041090561 = true by decide]; rfl))
  have S1 := hide s0.2
  clear h0 s0
  go_wp2_with fail
  refine (NC.out _ _ S1.out S0.out).mono ?_
  rintro e w1 ⟨rfl, hb⟩
  have hB := chain hB hb
  clear hb
  go_wp2_with fail
  refine (I1.out _).mono ?_
  rintro e w1 ⟨rfl, rfl⟩
  go_wp2_with fail
  refine (I2.out _).mono ?_
  rintro e w1 ⟨rfl, rfl⟩
  go_wp2
  go_ret
  exact ⟨rfl, hB⟩
set_option maxRecDepth 100000 in
set_option maxHeartbeats 2000000 in
theorem st_c (x y : Nat) (w : World) (hx : x < 18446744073709551616) (hy : y < 18446744073709551616) (ix : isI x = false) (iy : isI y = false) (nx : isN x = true) :
    Calls Try.prog 9 #[.int .u64 (x : Int), .int .u64 (y : Int)] w fun e w' => e = .returned (.bool true) ∧ Below w.heap.size w w' := by
  have N1 := hide (fun W => psm_any 9221120237041090561 y W hy)
  have NC := hide (fun z W (hz : z < 18446744073709551616) (h : canon z = canon y) => cmp_c z y 0 W hz hy (cmp3_zero.2 ((rank_canon hz hy).2 h)))
  have K := hide known_any
  have hB := Below.refl w.heap.size w
  have I1 := hide (fun W => isinf_is x _ W hx ix)
  have I2 := hide (fun W => isinf_is y _ W hy iy)
  have q := neq_self x
  rw [nx] at q
  clear hx hy ix iy nx
  go_enter Try.func9, Try.ntmps9
  go_wp2_with fail
  refine (K.out _).mono ?_
  rintro e w1 ⟨rfl, hb⟩
  have hB := chain hB hb
  clear hb
  go_wp2_with fail
  refine (of_any x _).mono ?_
  rintro e w1 ⟨rfl, rfl⟩
  go_wp2_with fail
  refine (of_any y _).mono ?_
  rintro e w1 ⟨rfl, rfl⟩
  go_wp2_with fail
  refine (nan_any _).mono ?_
  rintro e w1 ⟨rfl, rfl⟩
  go_wp2_with fail
  refine (N1.out _).mono ?_
  rintro e w1 ⟨z0, rfl, s0, n0, h0⟩
  have hB := chain hB (below_of h0)
  have S0 := hide (show canon z0 = canon y from s0.1.trans (by unfold smooth; rw [show isN 9221120237041090561 = true by decide]; rfl))
  have S1 := hide s0.2
  clear h0 s0
  go_wp2_with fail
  refine (NC.out _ _ S1.out S0.out).mono ?_
  rintro e w1 ⟨rfl, hb⟩
  have hB := chain hB hb
  clear hb
  go_wp2_with fail
  refine (I1.out _).mono ?_
  rintro e w1 ⟨rfl, rfl⟩
  go_wp2_with fail
  refine (I2.out _).mono ?_
  rintro e w1 ⟨rfl, rfl⟩
  go_wp2
  go_ret
  exact ⟨rfl, hB⟩
set_option maxRecDepth 100000 in
set_option maxHeartbeats 2000000 in
theorem st_d (x y : Nat) (w : World) (hx : x < 18446744073709551616) (hy : y < 18446744073709551616) (ix : isI x = false) (iy : isI y = false) (nx : isN x = false) (ny : isN y = true) :
    Calls Try.prog 9 #[.int .u64 (x : Int), .int .u64 (y : Int)] w fun e w' => e = .returned (.bool true) ∧ Below w.heap.size w w' := by
  have N1 := hide (fun W => psm_any 9221120237041090561 y W hy)
  have NC := hide (fun z W (hz : z < 18446744073709551616) (h : canon z = canon y) => cmp_c z y 0 W hz hy (cmp3_zero.2 ((rank_canon hz hy).2 h)))
  have K := hide known_any
  have hB := Below.refl w.heap.size w
  have I1 := hide (fun W => isinf_is x _ W hx ix)
  have I2 := hide (fun W => isinf_is y _ W hy iy)
  have q := neq_self x
  rw [nx] at q
  have r := neq_self y
  rw [ny] at r
  clear hx hy ix iy nx ny
  go_enter Try.func9, Try.ntmps9
  go_wp2_with fail
  refine (K.out _).mono ?_
  rintro e w1 ⟨rfl, hb⟩
  have hB := chain hB hb
  clear hb
  go_wp2_with fail
  refine (of_any x _).mono ?_
  rintro e w1 ⟨rfl, rfl⟩
  go_wp2_with fail
  refine (of_any y _).mono ?_
  rintro e w1 ⟨rfl, rfl⟩
  go_wp2_with fail
  refine (nan_any _).mono ?_
  rintro e w1 ⟨rfl, rfl⟩
  go_wp2_with fail
  refine (N1.out _).mono ?_
  rintro e w1 ⟨z0, rfl, s0, n0, h0⟩
  have hB := chain hB (below_of h0)
  have S0 := hide (show canon z0 = canon y from s0.1.trans (by unfold smooth; rw [show isN 9221120237041090561 = true by decide]; rfl))
  have S1 := hide s0.2
  clear h0 s0
  go_wp2_with fail
  refine (NC.out _ _ S1.out S0.out).mono ?_
  rintro e w1 ⟨rfl, hb⟩
  have hB := chain hB hb
  clear hb
  go_wp2_with fail
  refine (I1.out _).mono ?_
  rintro e w1 ⟨rfl, rfl⟩
  go_wp2_with fail
  refine (I2.out _).mono ?_
  rintro e w1 ⟨rfl, rfl⟩
  go_wp2
  go_ret
  exact ⟨rfl, hB⟩
set_option maxRecDepth 100000 in
set_option maxHeartbeats 2000000 in
theorem st_e (x y : Nat) (w : World) (hx : x < 18446744073709551616) (hy : y < 18446744073709551616) (d : Nat) (ix : isI x = false) (iy : isI y = false) (nx : isN x = false) (ny : isN y = false) (hd : Ieee.double.sub y x = some d) (di : isI d = true) :
    Calls Try.prog 9 #[.int .u64 (x : Int), .int .u64 (y : Int)] w fun e w' => e = .returned (.bool true) ∧ Below w.heap.size w w' := by
  have N1 := hide (fun W => psm_any 9221120237041090561 y W hy)
  have NC := hide (fun z W (hz : z < 18446744073709551616) (h : canon z = canon y) => cmp_c z y 0 W hz hy (cmp3_zero.2 ((rank_canon hz hy).2 h)))
  have K := hide known_any
  have hB := Below.refl w.heap.size w
  have I1 := hide (fun W => isinf_is x _ W hx ix)
  have I2 := hide (fun W => isinf_is y _ W hy iy)
  have I3 := hide (fun W => isinf_is d _ W (Ieee.Format.sub_lt _ hd) di)
  have sb := fun w : World => run_float_arith (P := Try.prog) w .sub 24 .f64 y x d hd
  have q := neq_self x
  rw [nx] at q
  have r := neq_self y
  rw [ny] at r
  clear hx hy ix iy nx ny hd di
  go_enter Try.func9, Try.ntmps9
  go_wp2_with fail
  refine (K.out _).mono ?_
  rintro e w1 ⟨rfl, hb⟩
  have hB := chain hB hb
  clear hb
  go_wp2_with fail
  refine (of_any x _).mono ?_
  rintro e w1 ⟨rfl, rfl⟩
  go_wp2_with fail
  refine (of_any y _).mono ?_
  rintro e w1 ⟨rfl, rfl⟩
  go_wp2_with fail
  refine (nan_any _).mono ?_
  rintro e w1 ⟨rfl, rfl⟩
  go_wp2_with fail
  refine (N1.out _).mono ?_
  rintro e w1 ⟨z0, rfl, s0, n0, h0⟩
  have hB := chain hB (below_of h0)
  have S0 := hide (show canon z0 = canon y from s0.1.trans (by unfold smooth; rw [show isN 9221120237041090561 = true by decide]; rfl))
  have S1 := hide s0.2
  clear h0 s0
  go_wp2_with fail
  refine (NC.out _ _ S1.out S0.out).mono ?_
  rintro e w1 ⟨rfl, hb⟩
  have hB := chain hB hb
  clear hb
  go_wp2_with fail
  refine (I1.out _).mono ?_
  rintro e w1 ⟨rfl, rfl⟩
  go_wp2_with fail
  refine (I2.out _).mono ?_
  rintro e w1 ⟨rfl, rfl⟩
  go_wp2_with fail
  refine (I3.out _).mono ?_
  rintro e w1 ⟨rfl, rfl⟩
  go_wp2
  go_ret
  exact ⟨rfl, hB⟩
set_option maxRecDepth 100000 in
set_option maxHeartbeats 2000000 in
theorem st_f (x y : Nat) (w : World) (hx : x < 18446744073709551616) (hy : y < 18446744073709551616) (d : Nat) (ix : isI x = false) (iy : isI y = false) (nx : isN x = false) (ny : isN y = false) (hd : Ieee.double.sub y x = some d) (di : isI d = false) :
    Calls Try.prog 9 #[.int .u64 (x : Int), .int .u64 (y : Int)] w fun e w' => e = .returned (.bool true) ∧ Below w.heap.size w w' := by
  have N1 := hide (fun W => psm_any 9221120237041090561 y W hy)
  have NC := hide (fun z W (hz : z < 18446744073709551616) (h : canon z = canon y) => cmp_c z y 0 W hz hy (cmp3_zero.2 ((rank_canon hz hy).2 h)))
  have K := hide known_any
  have hB := Below.refl w.heap.size w
  have I1 := hide (fun W => isinf_is x _ W hx ix)
  have I2 := hide (fun W => isinf_is y _ W hy iy)
  have I3 := hide (fun W => isinf_is d _ W (Ieee.Format.sub_lt _ hd) di)
  have sb := fun w : World => run_float_arith (P := Try.prog) w .sub 24 .f64 y x d hd
  have q := neq_self x
  rw [nx] at q
  have r := neq_self y
  rw [ny] at r
  have fx := fin_of nx ix
  have fy := fin_of ny iy
  have fd : rg d ≠ 9218868437227405312 := by simpa [isI] using di
  have X1 := hide (fun W => psm_any x y W hy)
  have X2 := hide (fun W => psm_any x x W hx)
  have Y1 := hide (fun z (hs : Sm x y z) => sm_stays fx fy hd fd hs)
  obtain ⟨dd, hdd, fdd⟩ := sub_self fx
  have Y2 := hide (fun z (hs : Sm x x z) => sm_stays fx fx hdd fdd hs)
  obtain ⟨mn, mx, nmn, nmx, hmn, hmx, hk⟩ := min_max nx ny
  have HK := hide hk
  have NN := hide (And.intro nx (And.intro nmn nmx))
  have mn1 := hmn Try.prog
  have mx1 := hmx Try.prog
  clear hx hy ix iy nx ny hd di fx fy fd hdd fdd hk nmn nmx hmn hmx
  go_enter Try.func9, Try.ntmps9
  go_wp2_with fail
  refine (K.out _).mono ?_
  rintro e w1 ⟨rfl, hb⟩
  have hB := chain hB hb
  clear hb
  go_wp2_with fail
  refine (of_any x _).mono ?_
  rintro e w1 ⟨rfl, rfl⟩
  go_wp2_with fail
  refine (of_any y _).mono ?_
  rintro e w1 ⟨rfl, rfl⟩
  go_wp2_with fail
  refine (nan_any _).mono ?_
  rintro e w1 ⟨rfl, rfl⟩
  go_wp2_with fail
  refine (N1.out _).mono ?_
  rintro e w1 ⟨z0, rfl, s0, n0, h0⟩
  have hB := chain hB (below_of h0)
  have S0 := hide (show canon z0 = canon y from s0.1.trans (by unfold smooth; rw [show isN 9221120237041090561 = true by decide]; rfl))
  have S1 := hide s0.2
  clear h0 s0
  go_wp2_with fail
  refine (NC.out _ _ S1.out S0.out).mono ?_
  rintro e w1 ⟨rfl, hb⟩
  have hB := chain hB hb
  clear hb
  go_wp2_with fail
  refine (I1.out _).mono ?_
  rintro e w1 ⟨rfl, rfl⟩
  go_wp2_with fail
  refine (I2.out _).mono ?_
  rintro e w1 ⟨rfl, rfl⟩
  go_wp2_with fail
  refine (I3.out _).mono ?_
  rintro e w1 ⟨rfl, rfl⟩
  go_wp2_with fail
  refine (X1.out _).mono ?_
  rintro e w1 ⟨z1, rfl, s1, n1, h1⟩
  have hB := chain hB (below_of h1)
  obtain ⟨nz, k1, k2⟩ := Y1.out z1 s1
  have hk := HK.out
  have o1 := ge_ways nz NN.out.2.1 (by omega)
  have o2 := le_ways nz NN.out.2.2 (by omega)
  clear h1 s1 k1 k2 hk nz
  rcases o1 with o1 | o1 <;> rcases o2 with o2 | o2
  all_goals
    go_wp2_with fail
    refine (X2.out _).mono ?_
    rintro e w1 ⟨z2, rfl, s2, n2, h2⟩
    have hB := chain hB (below_of h2)
    obtain ⟨nz, k1, _⟩ := Y2.out z2 s2
    have k3 := k1 (Int.le_refl _)
    have o3 : FloatKind.f64.format.order z2 x = some .eq := by
      rcases ord_ways nz NN.out.1 with ⟨o, _, k, _⟩ | ⟨o, _, k, _⟩ | ⟨o, _, k, _⟩
      · omega
      · omega
      · exact o
    clear h2 s2 k1 nz k3
    go_wp2
    go_ret
    exact ⟨rfl, hB⟩
theorem stays_any (x y : Nat) (w : World) (hx : x < 18446744073709551616) (hy : y < 18446744073709551616) :
    Calls Try.prog 9 #[.int .u64 (x : Int), .int .u64 (y : Int)] w fun e w' => e = .returned (.bool true) ∧ Below w.heap.size w w' := by
  cases ix : isI x
  · cases iy : isI y
    · cases nx : isN x
      · cases ny : isN y
        · have fx := fin_of nx ix
          have fy := fin_of ny iy
          obtain ⟨neg, hd, _, _⟩ := sub_fin fx fy
          obtain ⟨d, hd'⟩ : ∃ d, Ieee.double.sub y x = some d := ⟨_, hd⟩
          cases di : isI d
          · exact st_f x y w hx hy d ix iy nx ny hd' di
          · exact st_e x y w hx hy d ix iy nx ny hd' di
        · exact st_d x y w hx hy ix iy nx ny
      · exact st_c x y w hx hy ix iy nx
    · exact st_b x y w hx hy ix iy
  · exact st_a x y w hx hy ix
end PaceQ
end Go.Proofs.Ytoamiedaeofcaaa
