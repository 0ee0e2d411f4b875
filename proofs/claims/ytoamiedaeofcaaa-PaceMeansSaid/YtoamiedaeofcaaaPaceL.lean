/-
  Layer 2's laws on the order and on Smooth: PaceLine, PaceSmooths.
-/
import Derived.Test.YtoamiedaeofcaaaPaceK
namespace Go.Proofs.Ytoamiedaeofcaaa
namespace PaceL
open Go.RowKit Go.Shelf
open FltR FltC PaceA PaceB PaceC PaceD PaceE PaceG PaceF PaceK HexM

set_option maxRecDepth 100000 in
set_option maxHeartbeats 2000000 in
theorem line_c (x y z : Nat) (ab bc ac : Int) (w : World)
    (h1 : (∀ W : World, Calls Try.prog 22 #[.float .f64 x, .float .f64 y] W fun e w' => e = .returned (.int .i64 ab) ∧ Below W.heap.size W w')) (h2 : (∀ W : World, Calls Try.prog 22 #[.float .f64 y, .float .f64 z] W fun e w' => e = .returned (.int .i64 bc) ∧ Below W.heap.size W w')) (h3 : (∀ W : World, Calls Try.prog 22 #[.float .f64 x, .float .f64 z] W fun e w' => e = .returned (.int .i64 ac) ∧ Below W.heap.size W w'))
    (h4 : (∀ W : World, Calls Try.prog 22 #[.float .f64 y, .float .f64 x] W fun e w' => e = .returned (.int .i64 (-ab)) ∧ Below W.heap.size W w')) (h5 : (∀ W : World, Calls Try.prog 22 #[.float .f64 x, .float .f64 x] W fun e w' => e = .returned (.int .i64 0) ∧ Below W.heap.size W w'))
    (ha : ab = -1 ∨ ab = 0 ∨ ab = 1) (hb : bc = -1 ∨ bc = 0 ∨ bc = 1) (hc : ac = -1 ∨ ac = 0 ∨ ac = 1)
    (hbits : ((canon x : Int) == (canon y : Int)) = decide (ab = 0)) (hle : 0 < ab ∨ 0 < bc ∨ ac ≤ 0) (hge : ab < 0 ∨ bc < 0 ∨ 0 ≤ ac) :
    Calls Try.prog 7 #[.int .u64 (x : Int), .int .u64 (y : Int), .int .u64 (z : Int)] w fun e w' => e = .returned (.bool true) ∧ Below w.heap.size w w' := by
  have H1 := hide h1
  have H2 := hide h2
  have H3 := hide h3
  have H4 := hide h4
  have H5 := hide h5
  have K := hide known_any
  have hB := Below.refl w.heap.size w
  clear h1 h2 h3 h4 h5
  rcases ha with rfl | rfl | rfl <;> rcases hb with rfl | rfl | rfl <;> rcases hc with rfl | rfl | rfl <;> first
    | (exfalso; omega)
    | skip
  all_goals
    clear hle hge
    simp only [decide_true, decide_false, Int.reduceEq, Int.reduceNeg] at hbits H4
    go_enter Try.func7, Try.ntmps7
    go_wp2_with fail
    refine (of_any x _).mono ?_
    rintro e w1 ⟨rfl, rfl⟩
    go_wp2_with fail
    refine (of_any y _).mono ?_
    rintro e w1 ⟨rfl, rfl⟩
    go_wp2_with fail
    refine (of_any z _).mono ?_
    rintro e w1 ⟨rfl, rfl⟩
    go_wp2_with fail
    refine (H1.out _).mono ?_
    rintro e w1 ⟨rfl, hb⟩
    have hB := chain hB hb
    clear hb
    go_wp2_with fail
    refine (H2.out _).mono ?_
    rintro e w1 ⟨rfl, hb⟩
    have hB := chain hB hb
    clear hb
    go_wp2_with fail
    refine (H3.out _).mono ?_
    rintro e w1 ⟨rfl, hb⟩
    have hB := chain hB hb
    clear hb
    go_wp2_with fail
    refine (H4.out _).mono ?_
    rintro e w1 ⟨rfl, hb⟩
    have hB := chain hB hb
    clear hb
    go_wp2_with fail
    refine (bits_any x _).mono ?_
    rintro e w1 ⟨rfl, rfl⟩
    go_wp2_with fail
    refine (bits_any y _).mono ?_
    rintro e w1 ⟨rfl, rfl⟩
    go_wp2_with fail
    refine (H5.out _).mono ?_
    rintro e w1 ⟨rfl, hb⟩
    have hB := chain hB hb
    clear hb
    go_wp2_with fail
    refine (K.out _).mono ?_
    rintro e w1 ⟨rfl, hb⟩
    have hB := chain hB hb
    clear hb
    go_wp2
    go_ret
    exact ⟨rfl, hB⟩

theorem line_any (x y z : Nat) (w : World) (hx : x < 18446744073709551616) (hy : y < 18446744073709551616) (hz : z < 18446744073709551616) :
    Calls Try.prog 7 #[.int .u64 (x : Int), .int .u64 (y : Int), .int .u64 (z : Int)] w fun e w' => e = .returned (.bool true) ∧ Below w.heap.size w w' := by
  have h1 := fun W => cmp_any x y W hx hy
  have h2 := fun W => cmp_any y z W hy hz
  have h3 := fun W => cmp_any x z W hx hz
  have h4 := fun W => cmp_any y x W hy hx
  have h5 := fun W => cmp_any x x W hx hx
  rw [cmp3_neg (rank x) (rank y)] at h4
  rw [cmp3_zero.2 rfl] at h5
  have a := cmp3_cases (rank x) (rank y)
  have b := cmp3_cases (rank y) (rank z)
  have c := cmp3_cases (rank x) (rank z)
  have hbits : ((canon x : Int) == (canon y : Int)) = decide (cmp3 (rank x) (rank y) = 0) := by
    have h := rank_canon hx hy
    rw [Bool.eq_iff_iff]
    simp [cmp3_zero, h]
    omega
  exact line_c x y z _ _ _ w h1 h2 h3 h4 h5 (by omega) (by omega) (by omega) hbits (by omega) (by omega)

set_option maxRecDepth 100000 in
set_option maxHeartbeats 2000000 in
theorem smooths_any (x y : Nat) (w : World) (hx : x < 18446744073709551616) (hy : y < 18446744073709551616) :
    Calls Try.prog 4 #[.int .u64 (x : Int), .int .u64 (y : Int)] w fun e w' => e = .returned (.bool true) ∧ Below w.heap.size w w' := by
  have H1 := hide (fun W => cmp_any x y W hx hy)
  have H2 := hide (fun W => rcmp_any x y W hx hy)
  have H3 := hide (fun W => psm_any x y W hy)
  have H4 := hide (fun W => rsm_any x y W hy)
  have K := hide awake_any
  have hB := Below.refl w.heap.size w
  generalize cmp3 (rank x) (rank y) = c at *
  have tc : (c == c) = true := by simp
  clear hx hy
  go_enter Try.func4, Try.ntmps4
  go_wp2_with fail
  refine (of_any x _).mono ?_
  rintro e w1 ⟨rfl, rfl⟩
  go_wp2_with fail
  refine (of_any y _).mono ?_
  rintro e w1 ⟨rfl, rfl⟩
  go_wp2_with fail
  refine (H1.out _).mono ?_
  rintro e w1 ⟨rfl, hb⟩
  have hB := chain hB hb
  clear hb
  go_wp2_with fail
  refine (H2.out _).mono ?_
  rintro e w1 ⟨rfl, rfl⟩
  go_wp2_with fail
  refine (H3.out _).mono ?_
  rintro e w2 ⟨z1, rfl, s1, n1, h1⟩
  have hB := chain hB (below_of h1)
  have S1 := hide s1
  clear h1 s1
  go_wp2_with fail
  refine (H4.out _).mono ?_
  rintro e w3 ⟨z2, rfl, s2, n2, h2⟩
  have hB := chain hB (below_of h2)
  have S2 := hide (S1.out.1.trans s2.1.symm)
  clear h2 s2
  go_wp2_with fail
  refine (same_any z1 z2 _ S2.out).mono ?_
  rintro e w1 ⟨rfl, rfl⟩
  go_wp2_with fail
  refine (K.out _).mono ?_
  rintro e w1 ⟨rfl, hb⟩
  have hB := chain hB hb
  clear hb
  go_wp2
  go_ret
  exact ⟨rfl, hB⟩
end PaceL
end Go.Proofs.Ytoamiedaeofcaaa
