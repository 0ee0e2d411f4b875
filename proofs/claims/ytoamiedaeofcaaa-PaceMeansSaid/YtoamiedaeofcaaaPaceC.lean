/-
  Smooth, of package pace and of the document's answer.
-/
import Derived.Test.YtoamiedaeofcaaaPaceA
namespace Go.Proofs.Ytoamiedaeofcaaa
namespace PaceC
open Go.RowKit Go.Shelf
open FltR FltC PaceA

theorem run_none {P : Program} (w : World) (op : BinOp) (t : TypeId) (x y : Nat) (hop : op = .add ∨ op = .sub ∨ op = .quo) (h : floatBits op .f64 x y = none) :
    (binOp op t (.float .f64 x) (.float .f64 y)).run P w = .ok (.float .f64 (nanw (w.tape w.drawn (.nanBits .f64 x y)))) w.drew := by
  unfold floatBits at h
  rcases hop with rfl | rfl | rfl
  all_goals
    simp only at h
    simp [binOp, Op.floatArith, h, Question.forced]
    rfl

/-- What Smooth leaves. -/
def SmP (w : World) (x y : Nat) (e : Ending) (w' : World) : Prop := ∃ z, e = .returned (.float .f64 z) ∧ Sm x y z ∧ ∃ n, w' = w.drewN n
set_option maxHeartbeats 400000 in
theorem psm_nan (x y : Nat) (w : World) (nx : isN x = true) (hy : y < 18446744073709551616) : Calls Try.prog 24 #[.float .f64 x, .float .f64 y] w (SmP w x y) := by
  have R := hide (sm_nan nx hy)
  have C := hide (fun W => isnan_t x W nx)
  clear hy nx
  go_enter Try.func24, Try.ntmps24
  go_wp2_with (go_at_call 46; refine (C.out _).mono ?_; rintro e w1 ⟨rfl, rfl⟩)
  go_ret
  exact ⟨_, rfl, R.out, 0, rfl⟩
set_option maxHeartbeats 400000 in
theorem psm_n1 (x y : Nat) (w : World) (nx : isN x = false) (h : Ieee.double.sub y x = none) : Calls Try.prog 24 #[.float .f64 x, .float .f64 y] w (SmP w x y) := by
  have R := hide (fun t => sm_none (t := t) nx h)
  have h1 := fun w : World => run_none (P := Try.prog) w .sub 24 y x (by simp) h
  have h2 := fun (t : Nat) (w : World) => run_none (P := Try.prog) w .quo 24 (nanw t) 4620693217682128896 (by simp) (div_nan (nanw_isN t).1)
  have h3 := fun (t : Nat) (w : World) => run_none (P := Try.prog) w .add 24 x (nanw t) (by simp) (add_nan_right x (nanw_isN t).1)
  have C := hide (fun W => isnan_f x W nx)
  clear h nx
  go_enter Try.func24, Try.ntmps24
  go_wp2_with (go_at_call 46; refine (C.out _).mono ?_; rintro e w1 ⟨rfl, rfl⟩)
  go_ret
  exact ⟨_, rfl, R.out _, 3, rfl⟩
set_option maxHeartbeats 400000 in
theorem psm_n2 (x y : Nat) (w : World) (d : Nat) (nx : isN x = false) (h : Ieee.double.sub y x = some d) (k : Ieee.double.div d 4620693217682128896 = none) : Calls Try.prog 24 #[.float .f64 x, .float .f64 y] w (SmP w x y) := by
  have R := hide (fun t => sm_none2 (t := t) nx h k)
  have h1 := fun w : World => run_float_arith (P := Try.prog) w .sub 24 .f64 y x d h
  have h2 := fun (w : World) => run_none (P := Try.prog) w .quo 24 d 4620693217682128896 (by simp) k
  have h3 := fun (t : Nat) (w : World) => run_none (P := Try.prog) w .add 24 x (nanw t) (by simp) (add_nan_right x (nanw_isN t).1)
  have C := hide (fun W => isnan_f x W nx)
  clear h nx k
  go_enter Try.func24, Try.ntmps24
  go_wp2_with (go_at_call 46; refine (C.out _).mono ?_; rintro e w1 ⟨rfl, rfl⟩)
  go_ret
  exact ⟨_, rfl, R.out _, 2, rfl⟩
set_option maxHeartbeats 400000 in
theorem psm_n3 (x y : Nat) (w : World) (d e : Nat) (nx : isN x = false) (h : Ieee.double.sub y x = some d) (k : Ieee.double.div d 4620693217682128896 = some e) (l : Ieee.double.add x e = none) : Calls Try.prog 24 #[.float .f64 x, .float .f64 y] w (SmP w x y) := by
  have R := hide (fun t => sm_none3 (t := t) nx h k l)
  have h1 := fun w : World => run_float_arith (P := Try.prog) w .sub 24 .f64 y x d h
  have h2 := fun (w : World) => run_float_arith (P := Try.prog) w .quo 24 .f64 d 4620693217682128896 e k
  have h3 := fun (w : World) => run_none (P := Try.prog) w .add 24 x e (by simp) l
  have C := hide (fun W => isnan_f x W nx)
  clear h nx k l
  go_enter Try.func24, Try.ntmps24
  go_wp2_with (go_at_call 46; refine (C.out _).mono ?_; rintro e w1 ⟨rfl, rfl⟩)
  go_ret
  exact ⟨_, rfl, R.out _, 1, rfl⟩
set_option maxHeartbeats 400000 in
theorem psm_ok (x y : Nat) (w : World) (d e z : Nat) (nx : isN x = false) (h : Ieee.double.sub y x = some d) (k : Ieee.double.div d 4620693217682128896 = some e) (l : Ieee.double.add x e = some z) : Calls Try.prog 24 #[.float .f64 x, .float .f64 y] w (SmP w x y) := by
  have R := hide (sm_some nx h k l)
  have h1 := fun w : World => run_float_arith (P := Try.prog) w .sub 24 .f64 y x d h
  have h2 := fun (w : World) => run_float_arith (P := Try.prog) w .quo 24 .f64 d 4620693217682128896 e k
  have h3 := fun (w : World) => run_float_arith (P := Try.prog) w .add 24 .f64 x e z l
  have C := hide (fun W => isnan_f x W nx)
  clear h nx k l
  go_enter Try.func24, Try.ntmps24
  go_wp2_with (go_at_call 46; refine (C.out _).mono ?_; rintro e w1 ⟨rfl, rfl⟩)
  go_ret
  exact ⟨_, rfl, R.out, 0, rfl⟩
theorem psm_any (x y : Nat) (w : World) (hy : y < 18446744073709551616) : Calls Try.prog 24 #[.float .f64 x, .float .f64 y] w (SmP w x y) := by
  cases nx : isN x with
  | true => exact psm_nan x y w nx hy
  | false =>
    cases h : Ieee.double.sub y x with
    | none => exact psm_n1 x y w nx h
    | some d =>
      cases k : Ieee.double.div d 4620693217682128896 with
      | none => exact psm_n2 x y w d nx h k
      | some e =>
        cases l : Ieee.double.add x e with
        | none => exact psm_n3 x y w d e nx h k l
        | some z => exact psm_ok x y w d e z nx h k l
set_option maxHeartbeats 400000 in
theorem rsm_nan (x y : Nat) (w : World) (nx : isN x = true) (hy : y < 18446744073709551616) : Calls Try.prog 25 #[.float .f64 x, .float .f64 y] w (SmP w x y) := by
  have R := hide (sm_nan nx hy)
  have n0 := neq_self x
  rw [nx] at n0
  clear hy nx
  go_enter Try.func25, Try.ntmps25
  go_wp2
  go_ret
  exact ⟨_, rfl, R.out, 0, rfl⟩
set_option maxHeartbeats 400000 in
theorem rsm_n1 (x y : Nat) (w : World) (nx : isN x = false) (h : Ieee.double.sub y x = none) : Calls Try.prog 25 #[.float .f64 x, .float .f64 y] w (SmP w x y) := by
  have R := hide (fun t => sm_none (t := t) nx h)
  have h1 := fun w : World => run_none (P := Try.prog) w .sub 24 y x (by simp) h
  have h2 := fun (t : Nat) (w : World) => run_none (P := Try.prog) w .quo 24 (nanw t) 4620693217682128896 (by simp) (div_nan (nanw_isN t).1)
  have h3 := fun (t : Nat) (w : World) => run_none (P := Try.prog) w .add 24 x (nanw t) (by simp) (add_nan_right x (nanw_isN t).1)
  have n0 := neq_self x
  rw [nx] at n0
  clear h nx
  go_enter Try.func25, Try.ntmps25
  go_wp2
  go_ret
  exact ⟨_, rfl, R.out _, 3, rfl⟩
set_option maxHeartbeats 400000 in
theorem rsm_n2 (x y : Nat) (w : World) (d : Nat) (nx : isN x = false) (h : Ieee.double.sub y x = some d) (k : Ieee.double.div d 4620693217682128896 = none) : Calls Try.prog 25 #[.float .f64 x, .float .f64 y] w (SmP w x y) := by
  have R := hide (fun t => sm_none2 (t := t) nx h k)
  have h1 := fun w : World => run_float_arith (P := Try.prog) w .sub 24 .f64 y x d h
  have h2 := fun (w : World) => run_none (P := Try.prog) w .quo 24 d 4620693217682128896 (by simp) k
  have h3 := fun (t : Nat) (w : World) => run_none (P := Try.prog) w .add 24 x (nanw t) (by simp) (add_nan_right x (nanw_isN t).1)
  have n0 := neq_self x
  rw [nx] at n0
  clear h nx k
  go_enter Try.func25, Try.ntmps25
  go_wp2
  go_ret
  exact ⟨_, rfl, R.out _, 2, rfl⟩
set_option maxHeartbeats 400000 in
theorem rsm_n3 (x y : Nat) (w : World) (d e : Nat) (nx : isN x = false) (h : Ieee.double.sub y x = some d) (k : Ieee.double.div d 4620693217682128896 = some e) (l : Ieee.double.add x e = none) : Calls Try.prog 25 #[.float .f64 x, .float .f64 y] w (SmP w x y) := by
  have R := hide (fun t => sm_none3 (t := t) nx h k l)
  have h1 := fun w : World => run_float_arith (P := Try.prog) w .sub 24 .f64 y x d h
  have h2 := fun (w : World) => run_float_arith (P := Try.prog) w .quo 24 .f64 d 4620693217682128896 e k
  have h3 := fun (w : World) => run_none (P := Try.prog) w .add 24 x e (by simp) l
  have n0 := neq_self x
  rw [nx] at n0
  clear h nx k l
  go_enter Try.func25, Try.ntmps25
  go_wp2
  go_ret
  exact ⟨_, rfl, R.out _, 1, rfl⟩
set_option maxHeartbeats 400000 in
theorem rsm_ok (x y : Nat) (w : World) (d e z : Nat) (nx : isN x = false) (h : Ieee.double.sub y x = some d) (k : Ieee.double.div d 4620693217682128896 = some e) (l : Ieee.double.add x e = some z) : Calls Try.prog 25 #[.float .f64 x, .float .f64 y] w (SmP w x y) := by
  have R := hide (sm_some nx h k l)
  have h1 := fun w : World => run_float_arith (P := Try.prog) w .sub 24 .f64 y x d h
  have h2 := fun (w : World) => run_float_arith (P := Try.prog) w .quo 24 .f64 d 4620693217682128896 e k
  have h3 := fun (w : World) => run_float_arith (P := Try.prog) w .add 24 .f64 x e z l
  have n0 := neq_self x
  rw [nx] at n0
  clear h nx k l
  go_enter Try.func25, Try.ntmps25
  go_wp2
  go_ret
  exact ⟨_, rfl, R.out, 0, rfl⟩
theorem rsm_any (x y : Nat) (w : World) (hy : y < 18446744073709551616) : Calls Try.prog 25 #[.float .f64 x, .float .f64 y] w (SmP w x y) := by
  cases nx : isN x with
  | true => exact rsm_nan x y w nx hy
  | false =>
    cases h : Ieee.double.sub y x with
    | none => exact rsm_n1 x y w nx h
    | some d =>
      cases k : Ieee.double.div d 4620693217682128896 with
      | none => exact rsm_n2 x y w d nx h k
      | some e =>
        cases l : Ieee.double.add x e with
        | none => exact rsm_n3 x y w d e nx h k l
        | some z => exact rsm_ok x y w d e z nx h k l

end PaceC
end Go.Proofs.Ytoamiedaeofcaaa
