/-
  What the functions of package pace and of the document's answer give, one after the other: IsNaN, Bits, Of, Compare, Smooth.
-/
import Derived.Test.YtoamiedaeofcaaaProg
import Derived.Test.YtoamiedaeofcaaaFltC
import Derived.WalkKit
import Derived.WalkSpells
import Derived.WalkLawsBesides
import Derived.BigQuiet
import Derived.BigRegion
import Derived.RegionTactic
import Derived.ChangeAlike
import Derived.Deep.QuietTactic
import Derived.StillTailTactics
import Derived.Deep.RegionHeld3
import Derived.Deep.DeepCutAuto
import Derived.KernelRfl
import Derived.Laws.Externs
import Derived.Below
import Derived.OwnWalk
import Derived.Shelf.Spec.BitsCarry
namespace Go.Proofs.Ytoamiedaeofcaaa
namespace PaceA
open Go.RowKit Go.Shelf
open FltR FltC

theorem hide {p : Prop} (h : p) : Hid p := h
theorem bcell {W w1 : World} (hb : Below W.heap.size W w1) : (∀ b o, b < W.heap.size → w1.cell? ⟨b, o, none⟩ = W.cell? ⟨b, o, none⟩) ∧ (∀ b o, b < W.heap.size → w1.frozen? ⟨b, o, none⟩ = W.frozen? ⟨b, o, none⟩) ∧ W.heap.size ≤ w1.heap.size :=
  ⟨fun b o h => hb.cell (p := ⟨b, o, none⟩) h, fun b o h => hb.frozen (p := ⟨b, o, none⟩) h, hb.size⟩

theorem fbits (x : Nat) (w : World) : (callFunc 31 #[.float .f64 x]).run Try.prog w = .ok (.value (.int .u64 (x : Int))) w := by
  rw [run_callFunc_extern Try.func31 (by kernel_rfl) (by kernel_rfl) (by kernel_rfl) (e := Extern.MathFloatBits.float64bits) (by kernel_rfl)]
  rfl
theorem ffrom (n : Nat) (w : World) : (callFunc 43 #[.int .u64 (n : Int)]).run Try.prog w = .ok (.value (.float .f64 n)) w := by
  rw [run_callFunc_extern Try.func43 (by kernel_rfl) (by kernel_rfl) (by kernel_rfl) (e := Extern.MathFloatBits.float64frombits) (by kernel_rfl)]
  rfl

set_option maxHeartbeats 400000 in
theorem isnan_any (x : Nat) (w : World) : Calls Try.prog 46 #[.float .f64 x] w fun e w' => e = .returned (.bool (isN x)) ∧ w = w' := by
  have n := neq_self x
  go_enter Try.func46, Try.ntmps46
  go_wp2
  all_goals (go_ret; exact ⟨rfl, rfl⟩)

set_option maxHeartbeats 400000 in
theorem isnan_t (x : Nat) (w : World) (h : isN x = true) : Calls Try.prog 46 #[.float .f64 x] w fun e w' => e = .returned (.bool true) ∧ w = w' := h ▸ isnan_any x w
set_option maxHeartbeats 400000 in
theorem isnan_f (x : Nat) (w : World) (h : isN x = false) : Calls Try.prog 46 #[.float .f64 x] w fun e w' => e = .returned (.bool false) ∧ w = w' := h ▸ isnan_any x w

set_option maxHeartbeats 400000 in
/-- pace.Bits. -/
theorem bits_any (x : Nat) (w : World) : Calls Try.prog 17 #[.float .f64 x] w fun e w' => e = .returned (.int .u64 (canon x : Int)) ∧ w = w' := by
  have hb := fbits x
  unfold canon
  cases h : isN x
  · have C := hide (fun W => isnan_f x W h)
    clear h
    go_enter Try.func17, Try.ntmps17
    go_wp2_with (go_at_call 46; refine (C.out _).mono ?_; rintro e w' ⟨rfl, rfl⟩)
    go_ret
    exact ⟨rfl, rfl⟩
  · have C := hide (fun W => isnan_t x W h)
    clear h
    go_enter Try.func17, Try.ntmps17
    go_wp2_with (go_at_call 46; refine (C.out _).mono ?_; rintro e w' ⟨rfl, rfl⟩)
    go_ret
    exact ⟨rfl, rfl⟩

set_option maxHeartbeats 400000 in
/-- The document's Bits. -/
theorem rbits_any (x : Nat) (w : World) : Calls Try.prog 18 #[.float .f64 x] w fun e w' => e = .returned (.int .u64 (canon x : Int)) ∧ w = w' := by
  have hb := fbits x
  unfold canon
  have n := neq_self x
  cases h : isN x
  · rw [h] at n
    clear h
    go_enter Try.func18, Try.ntmps18
    go_wp2
    go_ret
    exact ⟨rfl, rfl⟩
  · rw [h] at n
    clear h
    go_enter Try.func18, Try.ntmps18
    go_wp2
    go_ret
    exact ⟨rfl, rfl⟩

set_option maxHeartbeats 400000 in
/-- law: of. -/
theorem of_any (n : Nat) (w : World) : Calls Try.prog 12 #[.int .u64 (n : Int)] w fun e w' => e = .returned (.float .f64 n) ∧ w = w' := by
  have hf := ffrom n
  go_enter Try.func12, Try.ntmps12
  go_wp2
  go_ret
  exact ⟨rfl, rfl⟩

set_option maxHeartbeats 400000 in
/-- law: same. -/
theorem same_any (x y : Nat) (w : World) (h : canon x = canon y) : Calls Try.prog 21 #[.float .f64 x, .float .f64 y] w fun e w' => e = .returned (.bool true) ∧ w = w' := by
  have C := hide (fun W => rbits_any x W)
  have D := rbits_any y
  rw [← h] at D
  have D := hide D
  have t0 : ((canon x : Int) == (canon x : Int)) = true := by simp
  clear h
  go_enter Try.func21, Try.ntmps21
  go_wp2_with fail
  refine (C.out _).mono ?_
  rintro e w' ⟨rfl, rfl⟩
  go_wp2_with fail
  refine (D.out _).mono ?_
  rintro e w' ⟨rfl, rfl⟩
  go_wp2
  go_ret
  exact ⟨rfl, rfl⟩

set_option maxHeartbeats 400000 in
/-- pace.Of: bits that are a form. -/
theorem pof_ok (n : Nat) (w : World) (h : canon n = n) : Calls Try.prog 13 #[.int .u64 (n : Int)] w fun e w' => e = .returned (.tuple #[.float .f64 n, .int .i64 0]) ∧ w = w' := by
  have hf := ffrom n
  have C := bits_any n
  rw [h] at C
  have C := hide C
  have t0 : ((n : Int) != (n : Int)) = false := by simp
  clear h
  go_enter Try.func13, Try.ntmps13
  go_wp2_with (go_at_call 17; refine (C.out _).mono ?_; rintro e w' ⟨rfl, rfl⟩)
  go_ret2
  exact ⟨rfl, rfl⟩
set_option maxHeartbeats 400000 in
/-- pace.Of: bits that are none. -/
theorem pof_no (n : Nat) (w : World) (h : canon n ≠ n) : Calls Try.prog 13 #[.int .u64 (n : Int)] w fun e w' => e = .returned (.tuple #[.float .f64 0, .int .i64 5]) ∧ w = w' := by
  have hf := ffrom n
  have C := hide (fun W => bits_any n W)
  have t0 : ((canon n : Int) != (n : Int)) = true := by simp; omega
  clear h
  go_enter Try.func13, Try.ntmps13
  go_wp2_with (go_at_call 17; refine (C.out _).mono ?_; rintro e w' ⟨rfl, rfl⟩)
  go_ret2
  exact ⟨rfl, rfl⟩

theorem canon_self (n : Nat) : canon n = n ↔ (isN n = false ∨ n = 9221120237041090560) := by
  unfold canon
  cases isN n <;> simp
  exact eq_comm

set_option maxHeartbeats 400000 in
theorem rof_nan (w : World) : Calls Try.prog 14 #[.int .u64 9221120237041090560] w fun e w' => e = .returned (.tuple #[.float .f64 9221120237041090560, .int .i64 0]) ∧ w = w' := by
  have hf : ∀ w : World, (callFunc 43 #[.int .u64 9221120237041090560]).run Try.prog w = .ok (.value (.float .f64 9221120237041090560)) w := ffrom 9221120237041090560
  have n0 := neq_self 9221120237041090560
  have k : isN 9221120237041090560 = true := by decide
  rw [k] at n0
  clear k
  go_enter Try.func14, Try.ntmps14
  go_wp2
  go_ret2
  exact ⟨rfl, rfl⟩
set_option maxHeartbeats 400000 in
/-- The document's Of: bits that are a form. -/
theorem rof_ok (n : Nat) (w : World) (h : canon n = n) : Calls Try.prog 14 #[.int .u64 (n : Int)] w fun e w' => e = .returned (.tuple #[.float .f64 n, .int .i64 0]) ∧ w = w' := by
  have hf := ffrom n
  have n0 := neq_self n
  rcases (canon_self n).1 h with k | k
  · rw [k] at n0
    clear h k
    go_enter Try.func14, Try.ntmps14
    go_wp2
    go_ret2
    exact ⟨rfl, rfl⟩
  · subst k
    exact rof_nan w
set_option maxHeartbeats 400000 in
/-- The document's Of: bits that are none. -/
theorem rof_no (n : Nat) (w : World) (h : canon n ≠ n) : Calls Try.prog 14 #[.int .u64 (n : Int)] w fun e w' => e = .returned (.tuple #[.float .f64 0, .int .i64 5]) ∧ w = w' := by
  have hf := ffrom n
  have n0 := neq_self n
  have k : isN n = true := by
    cases k : isN n
    · exact absurd ((canon_self n).2 (.inl k)) h
    · rfl
  rw [k] at n0
  have t0 : ((n : Int) != 9221120237041090560) = true := by
    simp
    intro h2
    exact h ((canon_self n).2 (.inr (by omega)))
  clear h k
  go_enter Try.func14, Try.ntmps14
  go_wp2
  go_ret2
  exact ⟨rfl, rfl⟩

/-! ### Compare -/
theorem bld (p q : Bool) (w : World) : (Instr.build 64 #[(0, .bool p), (1, .bool q)]).run Try.prog w = .ok (.agg #[.bool p, .bool q]) w := run_build w 64 _ _ (by kernel_rfl)
theorem bld0 (w : World) : (Instr.build 64 #[]).run Try.prog w = .ok (.agg #[.bool false, .bool false]) w := by kernel_rfl
theorem bldA (w : World) : (Instr.build 64 #[(0, .bool true)]).run Try.prog w = .ok (.agg #[.bool true, .bool false]) w := by kernel_rfl
theorem bldB (w : World) : (Instr.build 64 #[(1, .bool true)]).run Try.prog w = .ok (.agg #[.bool false, .bool true]) w := by kernel_rfl
theorem eqb (p q r s : Bool) (w : World) : (Op.equalIn 10000 64 (.agg #[.bool p, .bool q]) (.agg #[.bool r, .bool s])).run Try.prog w = .ok (p == r && q == s) w := by
  cases p <;> cases q <;> cases r <;> cases s <;> kernel_rfl

def ordB (p q : Bool) : Int := if p && !q then 1 else if !p && q then -1 else 0
set_option maxHeartbeats 400000 in
theorem order_any (p q : Bool) (w : World) : Calls Try.prog 48 #[.agg #[.bool p, .bool q]] w fun e w' => e = .returned (.int .i64 (ordB p q)) ∧ Below w.heap.size w w' := by
  have a := bldA
  have b := bldB
  have c := eqb
  cases p <;> cases q
  all_goals
    go_enter Try.func48, Try.ntmps48
    go_wp2
    go_ret
    exact ⟨rfl, (by repeat (first | assumption | exact Below.refl _ _ | refine Below.setCell ?_ (by first | omega | (simp; done) | (simp; omega)) _ | refine below_drewN ?_ _ | refine Below.drew ?_ | refine Below.alloc ?_ (by first | omega | (simp; done) | (simp; omega)) _ | refine Below.trans ?_ (Below.mono (by assumption) (by first | omega | (simp; done) | (simp; omega)))))⟩

end PaceA
end Go.Proofs.Ytoamiedaeofcaaa
