/-
  Compare and Smooth, of package pace and of the document's answer.
-/
import Derived.Test.YtoamiedaeofcaaaPaceA
namespace Go.Proofs.Ytoamiedaeofcaaa
namespace PaceB
open Go.RowKit Go.Shelf
open FltR FltC PaceA

theorem ng_word (x : Nat) (h : x < 18446744073709551616) : ng x = decide (9223372036854775808 ≤ x) := by
  unfold ng
  by_cases h1 : 9223372036854775808 ≤ x
  · have : x / 9223372036854775808 = 1 := by omega
    simp [this, h1]
  · have : x / 9223372036854775808 = 0 := by omega
    simp [this, h1]

set_option maxHeartbeats 400000 in
theorem sign_any (x : Nat) (w : World) (hx : x < 18446744073709551616) : Calls Try.prog 68 #[.float .f64 x] w fun e w' => e = .returned (.bool (ng x)) ∧ w = w' := by
  have hb := fbits x
  rw [ng_word x hx]
  by_cases h : 9223372036854775808 ≤ x
  · have e : decide (9223372036854775808 ≤ x) = true := by simpa using h
    have hc : ∀ w : World, (convert 22 2 (.int .u64 (x : Int))).run Try.prog w = .ok (.int .i64 ((x : Int) - 18446744073709551616)) w := by
      intro w
      have : IntKind.i64.wrap (x : Int) = (x : Int) - 18446744073709551616 := by rw [IntKind.wrap_i64]; omega
      rw [← this]
      simp [go_sem]
    have l : decide ((x : Int) - 18446744073709551616 < 0) = true := by simp; omega
    have l2 : (x : Int) - 18446744073709551616 < 0 := by omega
    rw [e]
    clear e h hx
    go_enter Try.func68, Try.ntmps68
    go_wp2
    go_ret
    exact ⟨rfl, rfl⟩
  · have e : decide (9223372036854775808 ≤ x) = false := by simpa using h
    have hc : ∀ w : World, (convert 22 2 (.int .u64 (x : Int))).run Try.prog w = .ok (.int .i64 (x : Int)) w := by
      intro w
      have : IntKind.i64.wrap (x : Int) = (x : Int) := by rw [IntKind.wrap_i64]; omega
      simp [go_sem, this]
    rw [e]
    clear e h hx
    go_enter Try.func68, Try.ntmps68
    go_wp2
    go_ret
    exact ⟨rfl, rfl⟩

set_option maxHeartbeats 400000 in
theorem rsign_any (x : Nat) (w : World) (hx : x < 18446744073709551616) : Calls Try.prog 49 #[.float .f64 x] w fun e w' => e = .returned (.int .i64 (if ng x then 1 else 0)) ∧ w = w' := by
  have hb := fbits x
  rw [ng_word x hx]
  by_cases h : 9223372036854775808 ≤ x
  · have e : decide (9223372036854775808 ≤ x) = true := by simpa using h
    have l : (x : Int) / 9223372036854775808 = 1 := by omega
    rw [e]
    clear e
    go_enter Try.func49, Try.ntmps49
    go_wp2
    go_ret
    exact ⟨rfl, rfl⟩
  · have e : decide (9223372036854775808 ≤ x) = false := by simpa using h
    have l : (x : Int) / 9223372036854775808 = 0 := by omega
    rw [e]
    clear e
    go_enter Try.func49, Try.ntmps49
    go_wp2
    go_ret
    exact ⟨rfl, rfl⟩

/-- Two numbers, none of them NaN. -/
def signsB (x y : Nat) : Int := ordB (!ng x) (!ng y)
theorem signsB_eq (x y : Nat) : signsB x y = (if ng y then 1 else 0) - (if ng x then 1 else 0) := by
  unfold signsB ordB
  cases ng x <;> cases ng y <;> rfl

set_option maxHeartbeats 400000 in
theorem cn_lt (x y : Nat) (w : World) (o1 : FloatKind.f64.format.order x y = some .lt) (o2 : FloatKind.f64.format.order y x = some .gt) :
    Calls Try.prog 47 #[.float .f64 x, .float .f64 y] w fun e w' => e = .returned (.int .i64 (-1)) ∧ Below w.heap.size w w' := by
  have a := bld
  have b := bld0
  have c := eqb
  go_enter Try.func47, Try.ntmps47
  go_wp2_with fail
  refine (order_any _ _ _).mono ?_
  rintro e w1 ⟨rfl, hb⟩
  have hB : Below w.heap.size w w1 := (by repeat (first | assumption | exact Below.refl _ _ | refine Below.setCell ?_ (by first | omega | (simp; done) | (simp; omega)) _ | refine below_drewN ?_ _ | refine Below.drew ?_ | refine Below.alloc ?_ (by first | omega | (simp; done) | (simp; omega)) _ | refine Below.trans ?_ (Below.mono (by assumption) (by first | omega | (simp; done) | (simp; omega)))))
  clear hb
  go_wp2
  go_ret
  exact ⟨rfl, (by repeat (first | assumption | exact Below.refl _ _ | refine Below.setCell ?_ (by first | omega | (simp; done) | (simp; omega)) _ | refine below_drewN ?_ _ | refine Below.drew ?_ | refine Below.alloc ?_ (by first | omega | (simp; done) | (simp; omega)) _ | refine Below.trans ?_ (Below.mono (by assumption) (by first | omega | (simp; done) | (simp; omega)))))⟩
set_option maxHeartbeats 400000 in
theorem cn_gt (x y : Nat) (w : World) (o1 : FloatKind.f64.format.order x y = some .gt) (o2 : FloatKind.f64.format.order y x = some .lt) :
    Calls Try.prog 47 #[.float .f64 x, .float .f64 y] w fun e w' => e = .returned (.int .i64 1) ∧ Below w.heap.size w w' := by
  have a := bld
  have b := bld0
  have c := eqb
  go_enter Try.func47, Try.ntmps47
  go_wp2_with fail
  refine (order_any _ _ _).mono ?_
  rintro e w1 ⟨rfl, hb⟩
  have hB : Below w.heap.size w w1 := (by repeat (first | assumption | exact Below.refl _ _ | refine Below.setCell ?_ (by first | omega | (simp; done) | (simp; omega)) _ | refine below_drewN ?_ _ | refine Below.drew ?_ | refine Below.alloc ?_ (by first | omega | (simp; done) | (simp; omega)) _ | refine Below.trans ?_ (Below.mono (by assumption) (by first | omega | (simp; done) | (simp; omega)))))
  clear hb
  go_wp2
  go_ret
  exact ⟨rfl, (by repeat (first | assumption | exact Below.refl _ _ | refine Below.setCell ?_ (by first | omega | (simp; done) | (simp; omega)) _ | refine below_drewN ?_ _ | refine Below.drew ?_ | refine Below.alloc ?_ (by first | omega | (simp; done) | (simp; omega)) _ | refine Below.trans ?_ (Below.mono (by assumption) (by first | omega | (simp; done) | (simp; omega)))))⟩
set_option maxHeartbeats 400000 in
theorem cn_eq (x y : Nat) (w : World) (hx : x < 18446744073709551616) (hy : y < 18446744073709551616) (o1 : FloatKind.f64.format.order x y = some .eq) (o2 : FloatKind.f64.format.order y x = some .eq) :
    Calls Try.prog 47 #[.float .f64 x, .float .f64 y] w fun e w' => e = .returned (.int .i64 (signsB x y)) ∧ Below w.heap.size w w' := by
  have C := hide (fun W => sign_any x W hx)
  have D := hide (fun W => sign_any y W hy)
  have a := bld
  have b := bld0
  have c := eqb
  unfold signsB
  clear hx hy
  go_enter Try.func47, Try.ntmps47
  go_wp2_with fail
  refine (C.out _).mono ?_
  rintro e w1 ⟨rfl, rfl⟩
  go_wp2_with fail
  refine (D.out _).mono ?_
  rintro e w1 ⟨rfl, rfl⟩
  go_wp2_with fail
  refine (order_any _ _ _).mono ?_
  rintro e w1 ⟨rfl, hb⟩
  have hB : Below w.heap.size w w1 := (by repeat (first | assumption | exact Below.refl _ _ | refine Below.setCell ?_ (by first | omega | (simp; done) | (simp; omega)) _ | refine below_drewN ?_ _ | refine Below.drew ?_ | refine Below.alloc ?_ (by first | omega | (simp; done) | (simp; omega)) _ | refine Below.trans ?_ (Below.mono (by assumption) (by first | omega | (simp; done) | (simp; omega)))))
  clear hb
  go_wp2
  go_ret
  exact ⟨rfl, (by repeat (first | assumption | exact Below.refl _ _ | refine Below.setCell ?_ (by first | omega | (simp; done) | (simp; omega)) _ | refine below_drewN ?_ _ | refine Below.drew ?_ | refine Below.alloc ?_ (by first | omega | (simp; done) | (simp; omega)) _ | refine Below.trans ?_ (Below.mono (by assumption) (by first | omega | (simp; done) | (simp; omega)))))⟩

theorem cn_any (x y : Nat) (w : World) (hx : x < 18446744073709551616) (hy : y < 18446744073709551616) (nx : isN x = false) (ny : isN y = false) :
    Calls Try.prog 47 #[.float .f64 x, .float .f64 y] w fun e w' => e = .returned (.int .i64 (cmp3 (rank x) (rank y))) ∧ Below w.heap.size w w' := by
  rcases ord_ways nx ny with ⟨a, b, _, r⟩ | ⟨a, b, _, r⟩ | ⟨a, b, _, r⟩
  · rw [r]; exact cn_lt x y w a b
  · rw [r]; exact cn_gt x y w a b
  · rw [r, ← signsB_eq]; exact cn_eq x y w hx hy a b

set_option maxHeartbeats 400000 in
theorem cmp_nan (x y : Nat) (p q : Bool) (w : World) (nx : isN x = p) (ny : isN y = q) (hpq : (p || q) = true) :
    Calls Try.prog 22 #[.float .f64 x, .float .f64 y] w fun e w' => e = .returned (.int .i64 (ordB p q)) ∧ Below w.heap.size w w' := by
  have C := isnan_any x
  have D := isnan_any y
  rw [nx] at C
  rw [ny] at D
  have C := hide C
  have D := hide D
  have a := bld
  have b := bld0
  have c := eqb
  clear nx ny
  cases p <;> cases q
  · cases hpq
  all_goals
    go_enter Try.func22, Try.ntmps22
    go_wp2_with fail
    refine (C.out _).mono ?_
    rintro e w1 ⟨rfl, rfl⟩
    go_wp2_with fail
    refine (D.out _).mono ?_
    rintro e w1 ⟨rfl, rfl⟩
    go_wp2_with fail
    refine (order_any _ _ _).mono ?_
    rintro e w1 ⟨rfl, hb⟩
    have hB : Below w.heap.size w w1 := (by repeat (first | assumption | exact Below.refl _ _ | refine Below.setCell ?_ (by first | omega | (simp; done) | (simp; omega)) _ | refine below_drewN ?_ _ | refine Below.drew ?_ | refine Below.alloc ?_ (by first | omega | (simp; done) | (simp; omega)) _ | refine Below.trans ?_ (Below.mono (by assumption) (by first | omega | (simp; done) | (simp; omega)))))
    clear hb
    go_wp2
    go_ret
    exact ⟨rfl, (by repeat (first | assumption | exact Below.refl _ _ | refine Below.setCell ?_ (by first | omega | (simp; done) | (simp; omega)) _ | refine below_drewN ?_ _ | refine Below.drew ?_ | refine Below.alloc ?_ (by first | omega | (simp; done) | (simp; omega)) _ | refine Below.trans ?_ (Below.mono (by assumption) (by first | omega | (simp; done) | (simp; omega)))))⟩

set_option maxHeartbeats 400000 in
theorem cmp_num (x y : Nat) (w : World) (hx : x < 18446744073709551616) (hy : y < 18446744073709551616) (nx : isN x = false) (ny : isN y = false) :
    Calls Try.prog 22 #[.float .f64 x, .float .f64 y] w fun e w' => e = .returned (.int .i64 (cmp3 (rank x) (rank y))) ∧ Below w.heap.size w w' := by
  have C := hide (fun W => isnan_f x W nx)
  have D := hide (fun W => isnan_f y W ny)
  have E := hide (fun W => cn_any x y W hx hy nx ny)
  have a := bld
  have b := bld0
  have c := eqb
  clear hx hy nx ny
  generalize cmp3 (rank x) (rank y) = r at *
  go_enter Try.func22, Try.ntmps22
  go_wp2_with fail
  refine (C.out _).mono ?_
  rintro e w1 ⟨rfl, rfl⟩
  go_wp2_with fail
  refine (D.out _).mono ?_
  rintro e w1 ⟨rfl, rfl⟩
  go_wp2_with fail
  refine (E.out _).mono ?_
  rintro e w1 ⟨rfl, hb⟩
  have hB : Below w.heap.size w w1 := (by repeat (first | assumption | exact Below.refl _ _ | refine Below.setCell ?_ (by first | omega | (simp; done) | (simp; omega)) _ | refine below_drewN ?_ _ | refine Below.drew ?_ | refine Below.alloc ?_ (by first | omega | (simp; done) | (simp; omega)) _ | refine Below.trans ?_ (Below.mono (by assumption) (by first | omega | (simp; done) | (simp; omega)))))
  clear hb
  go_wp2
  go_ret
  exact ⟨rfl, (by repeat (first | assumption | exact Below.refl _ _ | refine Below.setCell ?_ (by first | omega | (simp; done) | (simp; omega)) _ | refine below_drewN ?_ _ | refine Below.drew ?_ | refine Below.alloc ?_ (by first | omega | (simp; done) | (simp; omega)) _ | refine Below.trans ?_ (Below.mono (by assumption) (by first | omega | (simp; done) | (simp; omega)))))⟩

/-- pace.Compare. -/
theorem cmp_any (x y : Nat) (w : World) (hx : x < 18446744073709551616) (hy : y < 18446744073709551616) :
    Calls Try.prog 22 #[.float .f64 x, .float .f64 y] w fun e w' => e = .returned (.int .i64 (cmp3 (rank x) (rank y))) ∧ Below w.heap.size w w' := by
  cases nx : isN x <;> cases ny : isN y
  · exact cmp_num x y w hx hy nx ny
  · rw [rank_nan_right nx ny]; exact cmp_nan x y false true w nx ny rfl
  · rw [rank_nan_left nx ny]; exact cmp_nan x y true false w nx ny rfl
  · rw [rank_nan_cmp nx ny]; exact cmp_nan x y true true w nx ny rfl

/-! ### The document's Compare -/
set_option maxHeartbeats 400000 in
theorem rc_nn (x y : Nat) (w : World) (n1 : (FloatKind.f64.format.order x x != some .eq) = true) (e1 : (FloatKind.f64.format.order x x == some .eq) = false) (_n2 : (FloatKind.f64.format.order y y != some .eq) = true) (e2 : (FloatKind.f64.format.order y y == some .eq) = false) :
    Calls Try.prog 23 #[.float .f64 x, .float .f64 y] w fun e w' => e = .returned (.int .i64 0) ∧ w = w' := by
  go_enter Try.func23, Try.ntmps23
  go_wp2
  go_ret
  exact ⟨rfl, rfl⟩
set_option maxHeartbeats 400000 in
theorem rc_nf (x y : Nat) (w : World) (n1 : (FloatKind.f64.format.order x x != some .eq) = true) (e1 : (FloatKind.f64.format.order x x == some .eq) = false) (_n2 : (FloatKind.f64.format.order y y != some .eq) = false) (e2 : (FloatKind.f64.format.order y y == some .eq) = true) :
    Calls Try.prog 23 #[.float .f64 x, .float .f64 y] w fun e w' => e = .returned (.int .i64 1) ∧ w = w' := by
  go_enter Try.func23, Try.ntmps23
  go_wp2
  go_ret
  exact ⟨rfl, rfl⟩
set_option maxHeartbeats 400000 in
theorem rc_fn (x y : Nat) (w : World) (n1 : (FloatKind.f64.format.order x x != some .eq) = false) (e1 : (FloatKind.f64.format.order x x == some .eq) = true) (n2 : (FloatKind.f64.format.order y y != some .eq) = true) (_e2 : (FloatKind.f64.format.order y y == some .eq) = false) :
    Calls Try.prog 23 #[.float .f64 x, .float .f64 y] w fun e w' => e = .returned (.int .i64 (-1)) ∧ w = w' := by
  go_enter Try.func23, Try.ntmps23
  go_wp2
  go_ret
  exact ⟨rfl, rfl⟩
set_option maxHeartbeats 400000 in
theorem rc_lt (x y : Nat) (w : World) (n1 : (FloatKind.f64.format.order x x != some .eq) = false) (n2 : (FloatKind.f64.format.order y y != some .eq) = false) (o1 : FloatKind.f64.format.order x y = some .lt) :
    Calls Try.prog 23 #[.float .f64 x, .float .f64 y] w fun e w' => e = .returned (.int .i64 (-1)) ∧ w = w' := by
  go_enter Try.func23, Try.ntmps23
  go_wp2
  go_ret
  exact ⟨rfl, rfl⟩
set_option maxHeartbeats 400000 in
theorem rc_gt (x y : Nat) (w : World) (n1 : (FloatKind.f64.format.order x x != some .eq) = false) (n2 : (FloatKind.f64.format.order y y != some .eq) = false) (o1 : FloatKind.f64.format.order x y = some .gt) :
    Calls Try.prog 23 #[.float .f64 x, .float .f64 y] w fun e w' => e = .returned (.int .i64 1) ∧ w = w' := by
  go_enter Try.func23, Try.ntmps23
  go_wp2
  go_ret
  exact ⟨rfl, rfl⟩
set_option maxHeartbeats 400000 in
theorem rc_eq (x y : Nat) (p q : Bool) (w : World) (hp : ∀ W, Calls Try.prog 49 #[.float .f64 x] W fun e w' => e = .returned (.int .i64 (if p then 1 else 0)) ∧ W = w') (hq : ∀ W, Calls Try.prog 49 #[.float .f64 y] W fun e w' => e = .returned (.int .i64 (if q then 1 else 0)) ∧ W = w')
    (n1 : (FloatKind.f64.format.order x x != some .eq) = false) (n2 : (FloatKind.f64.format.order y y != some .eq) = false) (o1 : FloatKind.f64.format.order x y = some .eq) :
    Calls Try.prog 23 #[.float .f64 x, .float .f64 y] w fun e w' => e = .returned (.int .i64 ((if q then 1 else 0) - (if p then 1 else 0))) ∧ w = w' := by
  have HP := hide hp
  have HQ := hide hq
  clear hp hq
  cases p <;> cases q
  all_goals
    go_enter Try.func23, Try.ntmps23
    go_wp2_with fail
    refine (HQ.out _).mono ?_
    rintro e w1 ⟨rfl, rfl⟩
    go_wp2_with fail
    refine (HP.out _).mono ?_
    rintro e w1 ⟨rfl, rfl⟩
    go_wp2
    go_ret
    exact ⟨rfl, rfl⟩

theorem rcmp_any (x y : Nat) (w : World) (hx : x < 18446744073709551616) (hy : y < 18446744073709551616) :
    Calls Try.prog 23 #[.float .f64 x, .float .f64 y] w fun e w' => e = .returned (.int .i64 (cmp3 (rank x) (rank y))) ∧ w = w' := by
  have n1 := neq_self x
  have e1 := eql_self x
  have n2 := neq_self y
  have e2 := eql_self y
  cases nx : isN x <;> cases ny : isN y <;> rw [nx] at n1 e1 <;> rw [ny] at n2 e2
  · rcases ord_ways nx ny with ⟨a, b, _, r⟩ | ⟨a, b, _, r⟩ | ⟨a, b, _, r⟩
    · rw [r]; exact rc_lt x y w n1 n2 a
    · rw [r]; exact rc_gt x y w n1 n2 a
    · rw [r]; exact rc_eq x y (ng x) (ng y) w (fun W => rsign_any x W hx) (fun W => rsign_any y W hy) n1 n2 a
  · rw [rank_nan_right nx ny]; exact rc_fn x y w n1 e1 n2 e2
  · rw [rank_nan_left nx ny]; exact rc_nf x y w n1 e1 n2 e2
  · rw [rank_nan_cmp nx ny]; exact rc_nn x y w n1 e1 n2 e2

end PaceB
end Go.Proofs.Ytoamiedaeofcaaa
