/-
  The reference's More, and WideMore.
-/
import Derived.Test.YtcokhdajdnkinaaWideR
import Derived.Test.YtcokhdajdnkinaaWideK
namespace Go.Proofs.Ytcokhdajdnkinaa
open Go.RowKit Go.Shelf
namespace WideQ
open WideA WideB WideR WideH WideK

theorem pass {W u : World} {B : Nat} (hb : Below W.heap.size W u) (hB : B < W.heap.size) : (∀ o, u.cell? ⟨B, o, none⟩ = W.cell? ⟨B, o, none⟩) ∧ (∀ o, u.frozen? ⟨B, o, none⟩ = W.frozen? ⟨B, o, none⟩) ∧ B < u.heap.size :=
  ⟨fun o => (bcell hb).1 B o hB, fun o => (bcell hb).2.1 B o hB, Nat.lt_of_lt_of_le hB hb.size⟩
theorem keepS {wA w' : World} {b0 b1 : Nat} {ah al bh bl : Int} (c0 : Hid (wA.cell? ⟨b0, 0, none⟩ = some (.int .u64 ah))) (c1 : Hid (wA.cell? ⟨b0, 1, none⟩ = some (.int .u64 al))) (c2 : Hid (wA.cell? ⟨b1, 0, none⟩ = some (.int .u64 bh))) (c3 : Hid (wA.cell? ⟨b1, 1, none⟩ = some (.int .u64 bl))) (z0 : Hid (b0 < wA.heap.size)) (z1 : Hid (b1 < wA.heap.size)) (B : Below wA.heap.size wA w') :
    w'.cell? ⟨b0, 0, none⟩ = some (.int .u64 ah) ∧ w'.cell? ⟨b0, 1, none⟩ = some (.int .u64 al) ∧ w'.cell? ⟨b1, 0, none⟩ = some (.int .u64 bh) ∧ w'.cell? ⟨b1, 1, none⟩ = some (.int .u64 bl) ∧ Below wA.heap.size wA w' :=
  ⟨(B.cell (p := ⟨b0, 0, none⟩) z0.out).trans c0.out, (B.cell (p := ⟨b0, 1, none⟩) z0.out).trans c1.out, (B.cell (p := ⟨b1, 0, none⟩) z1.out).trans c2.out, (B.cell (p := ⟨b1, 1, none⟩) z1.out).trans c3.out, B⟩

set_option maxRecDepth 100000 in
set_option maxHeartbeats 8000000 in
theorem rm (ah al n bh bl m n0 n1 n2 m0 m1 m2 : Int) (w : World) (nl : 0 ≤ n) (nu : n ≤ 9223372036854775807) (ml : 0 ≤ m) (mu : m ≤ 9223372036854775807) (hb' : Hid ((0 ≤ n0 ∧ n0 < 18446744073709551616) ∧ (0 ≤ n1 ∧ n1 < 18446744073709551616) ∧ (0 ≤ m0 ∧ m0 < 18446744073709551616) ∧ (0 ≤ m1 ∧ m1 < 18446744073709551616)))
    (H1 : Hid (∀ W : World, Calls Try.prog 42 #[.agg #[.int .u64 ah, .int .u64 al], .int .i64 n] W fun e w' => e = .returned (.agg #[.int .u64 n0, .int .u64 n1, .int .u64 n2]) ∧ Below W.heap.size W w'))
    (H2 : Hid (∀ W : World, Calls Try.prog 42 #[.agg #[.int .u64 bh, .int .u64 bl], .int .i64 m] W fun e w' => e = .returned (.agg #[.int .u64 m0, .int .u64 m1, .int .u64 m2]) ∧ Below W.heap.size W w')) :
    Calls Try.prog 26 #[.agg #[.int .u64 ah, .int .u64 al], .int .i64 n, .agg #[.int .u64 bh, .int .u64 bl], .int .i64 m] w fun e w' => e = .returned (.tuple #[.bool (abv n0 n1 n2 m0 m1 m2), .int .i64 0]) ∧ Below w.heap.size w w' := by
  go_enter Try.func26, Try.ntmps26
  go_upto_region 3 with fail
  have hB : Below w.heap.size w ((w.alloc (.cells #[.int .u64 ah, .int .u64 al] 24)).alloc (.cells #[.int .u64 bh, .int .u64 bl] 24)) := (by repeat (first | assumption | exact Below.refl _ _ | refine Below.setCell ?_ (by first | omega | (simp; done) | (simp; omega)) _ | refine below_drewN ?_ _ | refine Below.drew ?_ | refine Below.alloc ?_ (by first | omega | (simp; done) | (simp; omega)) _ | refine Below.trans ?_ (Below.mono (by assumption) (by first | omega | (simp; done) | (simp; omega)))))
  have c0 : ((w.alloc (.cells #[.int .u64 ah, .int .u64 al] 24)).alloc (.cells #[.int .u64 bh, .int .u64 bl] 24)).cell? ⟨w.heap.size, 0, none⟩ = some (.int .u64 ah) := by simp [go_sem]
  have c1 : ((w.alloc (.cells #[.int .u64 ah, .int .u64 al] 24)).alloc (.cells #[.int .u64 bh, .int .u64 bl] 24)).cell? ⟨w.heap.size, 1, none⟩ = some (.int .u64 al) := by simp [go_sem]
  have c2 : ((w.alloc (.cells #[.int .u64 ah, .int .u64 al] 24)).alloc (.cells #[.int .u64 bh, .int .u64 bl] 24)).cell? ⟨w.heap.size + 1, 0, none⟩ = some (.int .u64 bh) := by simp [go_sem]
  have c3 : ((w.alloc (.cells #[.int .u64 ah, .int .u64 al] 24)).alloc (.cells #[.int .u64 bh, .int .u64 bl] 24)).cell? ⟨w.heap.size + 1, 1, none⟩ = some (.int .u64 bl) := by simp [go_sem]
  have hs : ((w.alloc (.cells #[.int .u64 ah, .int .u64 al] 24)).alloc (.cells #[.int .u64 bh, .int .u64 bl] 24)).heap.size = w.heap.size + 1 + 1 := by simp
  have z0 : w.heap.size < ((w.alloc (.cells #[.int .u64 ah, .int .u64 al] 24)).alloc (.cells #[.int .u64 bh, .int .u64 bl] 24)).heap.size := by omega
  have z1 : w.heap.size + 1 < ((w.alloc (.cells #[.int .u64 ah, .int .u64 al] 24)).alloc (.cells #[.int .u64 bh, .int .u64 bl] 24)).heap.size := by omega
  have hn0 : w.heap.size ≤ w.heap.size := Nat.le_refl _
  have hn1 : w.heap.size ≤ w.heap.size + 1 := by omega
  clear hs
  generalize (w.alloc (.cells #[.int .u64 ah, .int .u64 al] 24)).alloc (.cells #[.int .u64 bh, .int .u64 bl] 24) = wA at *
  generalize hb1 : w.heap.size + 1 = b1 at *
  obtain ⟨b0, hb0⟩ : ∃ b0, b0 = w.heap.size := ⟨_, rfl⟩
  rw [← hb0] at c0 c1 z0 hn0 ⊢
  have hb0' := hide hb0
  clear hb1 hb0
  have C0 := hide c0
  have C1 := hide c1
  have C2 := hide c2
  have C3 := hide c3
  have Z0 := hide z0
  have Z1 := hide z1
  have HBB := hide hB
  clear c0 c1 c2 c3 z0 z1 hB
  go_cut [10, 11] (fun s10 s11 wx => ∃ p q : Nat, s10 = .pointer (some ⟨p, 0, none⟩) ∧ s11 = .pointer (some ⟨q, 0, none⟩) ∧ Words wx p n0 n1 n2 ∧ Words wx q m0 m1 m2 ∧ Below w.heap.size w wx)
  case first =>
    go_region_held3 (fun w' => w'.cell? ⟨b0, 0, none⟩ = some (.int .u64 ah) ∧ w'.cell? ⟨b0, 1, none⟩ = some (.int .u64 al) ∧ w'.cell? ⟨b1, 0, none⟩ = some (.int .u64 bh) ∧ w'.cell? ⟨b1, 1, none⟩ = some (.int .u64 bl) ∧ Below wA.heap.size wA w')
      (exact keepS C0 C1 C2 C3 Z0 Z1 (by repeat' (first | with_reducible assumption | with_reducible exact Below.refl _ _ | with_reducible refine Below.setCell ?_ ?_ _ | with_reducible refine below_drewN ?_ _ | with_reducible refine Below.drew ?_ | with_reducible refine Below.alloc ?_ ?_ _ | with_reducible refine Below.trans ?_ (Below.mono (by with_reducible assumption) ?_) | omega | (simp; done) | (simp; omega))))
      (first
        | (go_at_call_of 42 (Value.int .i64 n); refine (H1.out _).mono ?_; rintro e u1 ⟨rfl, hb⟩; (try (have PP := pass (B := wA.heap.size) hb (by first | (simp; done) | (simp; omega) | omega); obtain ⟨_, _, _⟩ := PP)); (try (have PP := pass (B := wA.heap.size + 1) hb (by first | (simp; done) | (simp; omega) | omega); obtain ⟨_, _, _⟩ := PP)); have hB := Below.trans (B := wA.heap.size) (a := wA) (b := _) (c := u1) (by repeat' (first | with_reducible assumption | with_reducible exact Below.refl _ _ | with_reducible refine Below.setCell ?_ ?_ _ | with_reducible refine below_drewN ?_ _ | with_reducible refine Below.drew ?_ | with_reducible refine Below.alloc ?_ ?_ _ | with_reducible refine Below.trans ?_ (Below.mono (by with_reducible assumption) ?_) | omega | (simp; done) | (simp; omega))) (hb.mono (by first | (simp; done) | (simp; omega) | omega)); have := Below.size hB; clear hb)
        | (go_at_call_of 42 (Value.int .i64 m); refine (H2.out _).mono ?_; rintro e u2 ⟨rfl, hb⟩; (try (have PP := pass (B := wA.heap.size) hb (by first | (simp; done) | (simp; omega) | omega); obtain ⟨_, _, _⟩ := PP)); (try (have PP := pass (B := wA.heap.size + 1) hb (by first | (simp; done) | (simp; omega) | omega); obtain ⟨_, _, _⟩ := PP)); (try (have PP := pass (B := u1.heap.size) hb (by first | (simp; done) | (simp; omega) | omega); obtain ⟨_, _, _⟩ := PP)); (try (have PP := pass (B := u1.heap.size + 1) hb (by first | (simp; done) | (simp; omega) | omega); obtain ⟨_, _, _⟩ := PP)); have hB := Below.trans (B := wA.heap.size) (a := wA) (b := _) (c := u2) (by repeat' (first | with_reducible assumption | with_reducible exact Below.refl _ _ | with_reducible refine Below.setCell ?_ ?_ _ | with_reducible refine below_drewN ?_ _ | with_reducible refine Below.drew ?_ | with_reducible refine Below.alloc ?_ ?_ _ | with_reducible refine Below.trans ?_ (Below.mono (by with_reducible assumption) ?_) | omega | (simp; done) | (simp; omega))) (hb.mono (by first | (simp; done) | (simp; omega) | omega)); have := Below.size hB; clear hb))
    all_goals (go_wp2_with fail; go_meet; refine ⟨_, _, rfl, rfl, ⟨?_, ?_, ?_, ?_, ?_, ?_⟩, ⟨?_, ?_, ?_, ?_, ?_, ?_⟩, HBB.out.trans (Below.mono (B := wA.heap.size) (by repeat' (first | with_reducible assumption | with_reducible exact Below.refl _ _ | with_reducible refine Below.setCell ?_ ?_ _ | with_reducible refine below_drewN ?_ _ | with_reducible refine Below.drew ?_ | with_reducible refine Below.alloc ?_ ?_ _ | with_reducible refine Below.trans ?_ (Below.mono (by with_reducible assumption) ?_) | omega | (simp; done) | (simp; omega))) HBB.out.size)⟩ <;> first | (simp [go_sem]; done) | (simp [go_sem, *]; done))
  case rest =>
    obtain ⟨p, q, rfl, rfl, ⟨p0, p1, p2, p3, p4, p5⟩, ⟨q0, q1, q2, q3, q4, q5⟩, hB⟩ := hcut
    by_cases d2 : n2 = m2
    case neg =>
      have hv : abv n0 n1 n2 m0 m1 m2 = decide (m2 < n2) := by have := hb'.out; unfold abv; first | (simp; done) | (simp; omega)
      have HV := hide hv
      have t0 : (n2 != m2) = true := by simp [d2]
      clear hv d2
      go_wp2
      refine wp_loop_rounds 4 ?_; rw [rounds_succ]
      go_wp2
      go_quiet (fail)
      go_wp2
      go_quiet (fail)
      go_wp2
      go_ret2
      exact ⟨by rw [HV.out]; rfl, (by repeat' (first | with_reducible assumption | with_reducible exact Below.refl _ _ | with_reducible refine Below.setCell ?_ ?_ _ | with_reducible refine below_drewN ?_ _ | with_reducible refine Below.drew ?_ | with_reducible refine Below.alloc ?_ ?_ _ | with_reducible refine Below.trans ?_ (Below.mono (by with_reducible assumption) ?_) | omega | (simp; done) | (simp; omega)))⟩
    subst d2
    by_cases d1 : n1 = m1
    case neg =>
      have hv : abv n0 n1 n2 m0 m1 n2 = decide (m1 < n1) := by have := hb'.out; unfold abv; first | (simp; done) | (simp; omega)
      have HV := hide hv
      have t0 : (n1 != m1) = true := by simp [d1]
      clear hv d1
      go_wp2
      refine wp_loop_rounds 4 ?_; rw [rounds_succ]
      go_wp2
      go_quiet (fail)
      go_wp2
      rw [rounds_succ]
      go_wp2
      go_quiet (fail)
      go_wp2
      go_quiet (fail)
      go_wp2
      go_ret2
      exact ⟨by rw [HV.out]; rfl, (by repeat' (first | with_reducible assumption | with_reducible exact Below.refl _ _ | with_reducible refine Below.setCell ?_ ?_ _ | with_reducible refine below_drewN ?_ _ | with_reducible refine Below.drew ?_ | with_reducible refine Below.alloc ?_ ?_ _ | with_reducible refine Below.trans ?_ (Below.mono (by with_reducible assumption) ?_) | omega | (simp; done) | (simp; omega)))⟩
    subst d1
    by_cases d0 : n0 = m0
    case neg =>
      have hv : abv n0 n1 n2 m0 n1 n2 = decide (m0 < n0) := by have := hb'.out; unfold abv; first | (simp; done) | (simp; omega)
      have HV := hide hv
      have t0 : (n0 != m0) = true := by simp [d0]
      clear hv d0
      go_wp2
      refine wp_loop_rounds 4 ?_; rw [rounds_succ]
      go_wp2
      go_quiet (fail)
      go_wp2
      rw [rounds_succ]
      go_wp2
      go_quiet (fail)
      go_wp2
      rw [rounds_succ]
      go_wp2
      go_quiet (fail)
      go_wp2
      go_quiet (fail)
      go_wp2
      go_ret2
      exact ⟨by rw [HV.out]; rfl, (by repeat' (first | with_reducible assumption | with_reducible exact Below.refl _ _ | with_reducible refine Below.setCell ?_ ?_ _ | with_reducible refine below_drewN ?_ _ | with_reducible refine Below.drew ?_ | with_reducible refine Below.alloc ?_ ?_ _ | with_reducible refine Below.trans ?_ (Below.mono (by with_reducible assumption) ?_) | omega | (simp; done) | (simp; omega)))⟩
    subst d0
    have hv : abv n0 n1 n2 n0 n1 n2 = false := by unfold abv; simp
    have HV := hide hv
    clear hv
    go_wp2
    refine wp_loop_rounds 4 ?_; rw [rounds_succ]
    go_wp2
    go_quiet (fail)
    go_wp2
    rw [rounds_succ]
    go_wp2
    go_quiet (fail)
    go_wp2
    rw [rounds_succ]
    go_wp2
    go_quiet (fail)
    go_wp2
    rw [rounds_succ]
    go_wp2
    go_ret2
    exact ⟨by rw [HV.out]; rfl, (by repeat' (first | with_reducible assumption | with_reducible exact Below.refl _ _ | with_reducible refine Below.setCell ?_ ?_ _ | with_reducible refine below_drewN ?_ _ | with_reducible refine Below.drew ?_ | with_reducible refine Below.alloc ?_ ?_ _ | with_reducible refine Below.trans ?_ (Below.mono (by with_reducible assumption) ?_) | omega | (simp; done) | (simp; omega)))⟩


theorem rmore_any (ah al n bh bl m : Int) (w : World) (ahl : 0 ≤ ah) (ahu : ah < 18446744073709551616) (all : 0 ≤ al) (alu : al < 18446744073709551616) (bhl : 0 ≤ bh) (bhu : bh < 18446744073709551616) (bll : 0 ≤ bl) (blu : bl < 18446744073709551616) (nl : 0 ≤ n) (nu : n ≤ 9223372036854775807) (ml : 0 ≤ m) (mu : m ≤ 9223372036854775807) :
    Calls Try.prog 26 #[.agg #[.int .u64 ah, .int .u64 al], .int .i64 n, .agg #[.int .u64 bh, .int .u64 bl], .int .i64 m] w fun e w' =>
      e = .returned (.tuple #[.bool (decide ((bh * 18446744073709551616 + bl) * m < (ah * 18446744073709551616 + al) * n)), .int .i64 0]) ∧ Below w.heap.size w w' := by
  have C1 := fun W => rproduct ah al n W ahl ahu all alu nl nu
  have C2 := fun W => rproduct bh bl m W bhl bhu bll blu ml mu
  generalize (ah * 18446744073709551616 + al) * n = N at *
  generalize (bh * 18446744073709551616 + bl) * m = M at *
  have hv : decide (M < N) = abv (d0 N) (d1 N) (d2 N) (d0 M) (d1 M) (d2 M) := by unfold abv d0 d1 d2; congr 1; apply propext; omega
  have k1 : 0 ≤ d0 N ∧ d0 N < 18446744073709551616 := by unfold d0; omega
  have k2 : 0 ≤ d1 N ∧ d1 N < 18446744073709551616 := by unfold d1; omega
  have k3 : 0 ≤ d0 M ∧ d0 M < 18446744073709551616 := by unfold d0; omega
  have k4 : 0 ≤ d1 M ∧ d1 M < 18446744073709551616 := by unfold d1; omega
  rw [hv]
  clear hv
  generalize d0 N = n0 at *
  generalize d1 N = n1 at *
  generalize d2 N = n2 at *
  generalize d0 M = m0 at *
  generalize d1 M = m1 at *
  generalize d2 M = m2 at *
  exact rm ah al n bh bl m n0 n1 n2 m0 m1 m2 w nl nu ml mu (hide ⟨k1, k2, k3, k4⟩) (hide C1) (hide C2)

set_option maxRecDepth 100000 in
set_option maxHeartbeats 4000000 in
theorem more_law (ah al n bh bl m c : Int) (v : Bool) (w : World)
    (H1 : Hid (∀ W : World, Calls Try.prog 25 #[.agg #[.int .u64 ah, .int .u64 al], .int .i64 n, .agg #[.int .u64 bh, .int .u64 bl], .int .i64 m] W fun e w' => e = .returned (.tuple #[.bool v, .int .i64 c]) ∧ Below W.heap.size W w'))
    (H2 : Hid (∀ W : World, Calls Try.prog 26 #[.agg #[.int .u64 ah, .int .u64 al], .int .i64 n, .agg #[.int .u64 bh, .int .u64 bl], .int .i64 m] W fun e w' => e = .returned (.tuple #[.bool v, .int .i64 c]) ∧ Below W.heap.size W w')) :
    Calls Try.prog 4 #[.agg #[.int .u64 ah, .int .u64 al], .int .i64 n, .agg #[.int .u64 bh, .int .u64 bl], .int .i64 m] w fun e w' => e = .returned (.bool true) ∧ Below w.heap.size w w' := by
  have t0 : (v == v) = true := by simp
  have t1 : (c == c) = true := by simp
  go_enter Try.func4, Try.ntmps4
  go_wp2_with fail
  have hB : Below w.heap.size w ((w.alloc (.cells #[.int .u64 ah, .int .u64 al] 24)).alloc (.cells #[.int .u64 bh, .int .u64 bl] 24)) := (by repeat (first | assumption | exact Below.refl _ _ | refine Below.setCell ?_ (by first | omega | (simp; done) | (simp; omega)) _ | refine below_drewN ?_ _ | refine Below.drew ?_ | refine Below.alloc ?_ (by first | omega | (simp; done) | (simp; omega)) _ | refine Below.trans ?_ (Below.mono (by assumption) (by first | omega | (simp; done) | (simp; omega)))))
  have c0 : ((w.alloc (.cells #[.int .u64 ah, .int .u64 al] 24)).alloc (.cells #[.int .u64 bh, .int .u64 bl] 24)).cell? ⟨w.heap.size, 0, none⟩ = some (.int .u64 ah) := by simp [go_sem]
  have c1 : ((w.alloc (.cells #[.int .u64 ah, .int .u64 al] 24)).alloc (.cells #[.int .u64 bh, .int .u64 bl] 24)).cell? ⟨w.heap.size, 1, none⟩ = some (.int .u64 al) := by simp [go_sem]
  have c2 : ((w.alloc (.cells #[.int .u64 ah, .int .u64 al] 24)).alloc (.cells #[.int .u64 bh, .int .u64 bl] 24)).cell? ⟨w.heap.size + 1, 0, none⟩ = some (.int .u64 bh) := by simp [go_sem]
  have c3 : ((w.alloc (.cells #[.int .u64 ah, .int .u64 al] 24)).alloc (.cells #[.int .u64 bh, .int .u64 bl] 24)).cell? ⟨w.heap.size + 1, 1, none⟩ = some (.int .u64 bl) := by simp [go_sem]
  have hs : ((w.alloc (.cells #[.int .u64 ah, .int .u64 al] 24)).alloc (.cells #[.int .u64 bh, .int .u64 bl] 24)).heap.size = w.heap.size + 1 + 1 := by simp
  have z0 : w.heap.size < ((w.alloc (.cells #[.int .u64 ah, .int .u64 al] 24)).alloc (.cells #[.int .u64 bh, .int .u64 bl] 24)).heap.size := by omega
  have z1 : w.heap.size + 1 < ((w.alloc (.cells #[.int .u64 ah, .int .u64 al] 24)).alloc (.cells #[.int .u64 bh, .int .u64 bl] 24)).heap.size := by omega
  have hn0 : w.heap.size ≤ w.heap.size := Nat.le_refl _
  have hn1 : w.heap.size ≤ w.heap.size + 1 := by omega
  clear hs
  generalize (w.alloc (.cells #[.int .u64 ah, .int .u64 al] 24)).alloc (.cells #[.int .u64 bh, .int .u64 bl] 24) = wA at *
  generalize hb1 : w.heap.size + 1 = b1 at *
  obtain ⟨b0, hb0⟩ : ∃ b0, b0 = w.heap.size := ⟨_, rfl⟩
  rw [← hb0] at c0 c1 z0 hn0 ⊢
  have hb0' := hide hb0
  clear hb1 hb0
  refine (H1.out _).mono ?_
  rintro e w1 ⟨rfl, hb⟩
  have c0 := (hb.cell (p := ⟨b0, 0, none⟩) (by first | (simp; done) | (simp; omega) | (dsimp only; omega))).trans (c := some (.int .u64 ah)) (by first | assumption | (simp [go_sem]; done) | (simp [go_sem, *]; done)); have c1 := (hb.cell (p := ⟨b0, 1, none⟩) (by first | (simp; done) | (simp; omega) | (dsimp only; omega))).trans (c := some (.int .u64 al)) (by first | assumption | (simp [go_sem]; done) | (simp [go_sem, *]; done)); have c2 := (hb.cell (p := ⟨b1, 0, none⟩) (by first | (simp; done) | (simp; omega) | (dsimp only; omega))).trans (c := some (.int .u64 bh)) (by first | assumption | (simp [go_sem]; done) | (simp [go_sem, *]; done)); have c3 := (hb.cell (p := ⟨b1, 1, none⟩) (by first | (simp; done) | (simp; omega) | (dsimp only; omega))).trans (c := some (.int .u64 bl)) (by first | assumption | (simp [go_sem]; done) | (simp [go_sem, *]; done)); have z0 : b0 < w1.heap.size := (by first | (have := hb.size; simp at this; omega) | (have := hb.size; omega)); have z1 : b1 < w1.heap.size := (by first | (have := hb.size; simp at this; omega) | (have := hb.size; omega)); have hB := Below.trans (B := w.heap.size) (a := w) (b := _) (c := w1) (by first | assumption | exact (by repeat (first | assumption | exact Below.refl _ _ | refine Below.setCell ?_ (by first | omega | (simp; done) | (simp; omega)) _ | refine below_drewN ?_ _ | refine Below.drew ?_ | refine Below.alloc ?_ (by first | omega | (simp; done) | (simp; omega)) _ | refine Below.trans ?_ (Below.mono (by assumption) (by first | omega | (simp; done) | (simp; omega)))))) (hb.mono (by first | (simp; done) | (simp; omega) | omega)); clear hb
  go_wp2_with fail
  refine (H2.out _).mono ?_
  rintro e w2 ⟨rfl, hb⟩
  have c0 := (hb.cell (p := ⟨b0, 0, none⟩) (by first | (simp; done) | (simp; omega) | (dsimp only; omega))).trans (c := some (.int .u64 ah)) (by first | assumption | (simp [go_sem]; done) | (simp [go_sem, *]; done)); have c1 := (hb.cell (p := ⟨b0, 1, none⟩) (by first | (simp; done) | (simp; omega) | (dsimp only; omega))).trans (c := some (.int .u64 al)) (by first | assumption | (simp [go_sem]; done) | (simp [go_sem, *]; done)); have c2 := (hb.cell (p := ⟨b1, 0, none⟩) (by first | (simp; done) | (simp; omega) | (dsimp only; omega))).trans (c := some (.int .u64 bh)) (by first | assumption | (simp [go_sem]; done) | (simp [go_sem, *]; done)); have c3 := (hb.cell (p := ⟨b1, 1, none⟩) (by first | (simp; done) | (simp; omega) | (dsimp only; omega))).trans (c := some (.int .u64 bl)) (by first | assumption | (simp [go_sem]; done) | (simp [go_sem, *]; done)); have z0 : b0 < w2.heap.size := (by first | (have := hb.size; simp at this; omega) | (have := hb.size; omega)); have z1 : b1 < w2.heap.size := (by first | (have := hb.size; simp at this; omega) | (have := hb.size; omega)); have hB := Below.trans (B := w.heap.size) (a := w) (b := _) (c := w2) (by first | assumption | exact (by repeat (first | assumption | exact Below.refl _ _ | refine Below.setCell ?_ (by first | omega | (simp; done) | (simp; omega)) _ | refine below_drewN ?_ _ | refine Below.drew ?_ | refine Below.alloc ?_ (by first | omega | (simp; done) | (simp; omega)) _ | refine Below.trans ?_ (Below.mono (by assumption) (by first | omega | (simp; done) | (simp; omega)))))) (hb.mono (by first | (simp; done) | (simp; omega) | omega)); clear hb
  go_wp2_with fail
  refine (awake_any _).mono ?_
  rintro e w3 ⟨rfl, hb⟩
  have hB := Below.trans hB (hb.mono (by have := hB.size; omega))
  clear hb
  go_wp2
  go_ret
  exact ⟨rfl, (by repeat (first | assumption | exact Below.refl _ _ | refine Below.setCell ?_ (by first | omega | (simp; done) | (simp; omega)) _ | refine below_drewN ?_ _ | refine Below.drew ?_ | refine Below.alloc ?_ (by first | omega | (simp; done) | (simp; omega)) _ | refine Below.trans ?_ (Below.mono (by assumption) (by first | omega | (simp; done) | (simp; omega)))))⟩

theorem wmore_any (ah al n bh bl m : Int) (w : World) (ahl : 0 ≤ ah) (ahu : ah < 18446744073709551616) (all : 0 ≤ al) (alu : al < 18446744073709551616) (bhl : 0 ≤ bh) (bhu : bh < 18446744073709551616) (bll : 0 ≤ bl) (blu : bl < 18446744073709551616) (nl : -9223372036854775808 ≤ n) (nu : n ≤ 9223372036854775807) (ml : -9223372036854775808 ≤ m) (mu : m ≤ 9223372036854775807) :
    Calls Try.prog 4 #[.agg #[.int .u64 ah, .int .u64 al], .int .i64 n, .agg #[.int .u64 bh, .int .u64 bl], .int .i64 m] w fun e w' => e = .returned (.bool true) ∧ Below w.heap.size w w' := by
  by_cases h : n < 0 ∨ (¬ n < 0 ∧ m < 0)
  · exact more_law ah al n bh bl m 3 false w (hide fun W => more_neg ah al n bh bl m W h) (hide fun W => rmore_neg ah al n bh bl m W h)
  · exact more_law ah al n bh bl m 0 _ w (hide fun W => more_any ah al n bh bl m W ahl ahu all alu bhl bhu bll blu (by omega) nu (by omega) mu) (hide fun W => rmore_any ah al n bh bl m W ahl ahu all alu bhl bhu bll blu (by omega) nu (by omega) mu)
end WideQ
end Go.Proofs.Ytcokhdajdnkinaa
