/-
  What the functions of package pace and of the document's answer give, one after the other: IsNaN, Bits, Of, Compare, Smooth.
-/
import Derived.Test.YtplinpbmncccoaaProg
import Derived.Test.YtplinpbmncccoaaFltC
import Derived.WalkKit
import Derived.WalkSpells
import Derived.WalkLawsBesides
import Derived.BigQuiet
import Derived.BigRegion
import Derived.RegionTactic
import Derived.ChangeAlike
import Derived.Deep.QuietTactic
import Derived.StillTailTactics
import Derived.Deep.RegionHeld3
import Derived.Deep.DeepCutAuto
import Derived.KernelRfl
import Derived.Laws.Externs
import Derived.Below
import Derived.OwnWalk
import Derived.Shelf.Spec.BitsCarry
namespace Go.Proofs.Ytplinpbmncccoaa
namespace PaceA
open Go.RowKit Go.Shelf
open FltR FltC

theorem hide {p : Prop} (h : p) : Hid p := h
theorem bcell {W w1 : World} (hb : Below W.heap.size W w1) : (∀ b o, b < W.heap.size → w1.cell? ⟨b, o, none⟩ = W.cell? ⟨b, o, none⟩) ∧ (∀ b o, b < W.heap.size → w1.frozen? ⟨b, o, none⟩ = W.frozen? ⟨b, o, none⟩) ∧ W.heap.size ≤ w1.heap.size :=
  ⟨fun b o h => hb.cell (p := ⟨b, o, none⟩) h, fun b o h => hb.frozen (p := ⟨b, o, none⟩) h, hb.size⟩

theorem fbits (x : Nat) (w : World) : (callFunc 150 #[.float .f64 x]).run Try.prog w = .ok (.value (.int .u64 (x : Int))) w := by
  rw [run_callFunc_extern Try.func150 (by kernel_rfl) (by kernel_rfl) (by kernel_rfl) (e := Extern.MathFloatBits.float64bits) (by kernel_rfl)]
  rfl
theorem ffrom (n : Nat) (w : World) : (callFunc 96 #[.int .u64 (n : Int)]).run Try.prog w = .ok (.value (.float .f64 n)) w := by
  rw [run_callFunc_extern Try.func96 (by kernel_rfl) (by kernel_rfl) (by kernel_rfl) (e := Extern.MathFloatBits.float64frombits) (by kernel_rfl)]
  rfl

set_option maxHeartbeats 400000 in
theorem isnan_any (x : Nat) (w : World) : Calls Try.prog 210 #[.float .f64 x] w fun e w' => e = .returned (.bool (isN x)) ∧ w = w' := by
  have n := neq_self x
  go_enter Try.func210, Try.ntmps210
  go_wp2
  all_goals (go_ret; exact ⟨rfl, rfl⟩)

set_option maxHeartbeats 400000 in
theorem isnan_t (x : Nat) (w : World) (h : isN x = true) : Calls Try.prog 210 #[.float .f64 x] w fun e w' => e = .returned (.bool true) ∧ w = w' := h ▸ isnan_any x w
set_option maxHeartbeats 400000 in
theorem isnan_f (x : Nat) (w : World) (h : isN x = false) : Calls Try.prog 210 #[.float .f64 x] w fun e w' => e = .returned (.bool false) ∧ w = w' := h ▸ isnan_any x w

set_option maxHeartbeats 400000 in
/-- pace.Bits. -/
theorem bits_any (x : Nat) (w : World) : Calls Try.prog 174 #[.float .f64 x] w fun e w' => e = .returned (.int .u64 (canon x : Int)) ∧ w = w' := by
  have hb := fbits x
  unfold canon
  cases h : isN x
  · have C := hide (fun W => isnan_f x W h)
    clear h
    go_enter Try.func174, Try.ntmps174
    go_wp2_with (go_at_call 210; refine (C.out _).mono ?_; rintro e w' ⟨rfl, rfl⟩)
    go_ret
    exact ⟨rfl, rfl⟩
  · have C := hide (fun W => isnan_t x W h)
    clear h
    go_enter Try.func174, Try.ntmps174
    go_wp2_with (go_at_call 210; refine (C.out _).mono ?_; rintro e w' ⟨rfl, rfl⟩)
    go_ret
    exact ⟨rfl, rfl⟩

set_option maxHeartbeats 400000 in
/-- The document's Bits. -/
theorem rbits_any (x : Nat) (w : World) : Calls Try.prog 113 #[.float .f64 x] w fun e w' => e = .returned (.int .u64 (canon x : Int)) ∧ w = w' := by
  have hb := fbits x
  unfold canon
  have n := neq_self x
  cases h : isN x
  · rw [h] at n
    clear h
    go_enter Try.func113, Try.ntmps113
    go_wp2
    go_ret
    exact ⟨rfl, rfl⟩
  · rw [h] at n
    clear h
    go_enter Try.func113, Try.ntmps113
    go_wp2
    go_ret
    exact ⟨rfl, rfl⟩

set_option maxHeartbeats 400000 in
/-- pace.Of: bits that are a form. -/
theorem pof_ok (n : Nat) (w : World) (h : canon n = n) : Calls Try.prog 195 #[.int .u64 (n : Int)] w fun e w' => e = .returned (.tuple #[.float .f64 n, .int .i64 0]) ∧ w = w' := by
  have hf := ffrom n
  have C := bits_any n
  rw [h] at C
  have C := hide C
  have t0 : ((n : Int) != (n : Int)) = false := by simp
  clear h
  go_enter Try.func195, Try.ntmps195
  go_wp2_with (go_at_call 174; refine (C.out _).mono ?_; rintro e w' ⟨rfl, rfl⟩)
  go_ret2
  exact ⟨rfl, rfl⟩
set_option maxHeartbeats 400000 in
/-- pace.Of: bits that are none. -/
theorem pof_no (n : Nat) (w : World) (h : canon n ≠ n) : Calls Try.prog 195 #[.int .u64 (n : Int)] w fun e w' => e = .returned (.tuple #[.float .f64 0, .int .i64 5]) ∧ w = w' := by
  have hf := ffrom n
  have C := hide (fun W => bits_any n W)
  have t0 : ((canon n : Int) != (n : Int)) = true := by simp; omega
  clear h
  go_enter Try.func195, Try.ntmps195
  go_wp2_with (go_at_call 174; refine (C.out _).mono ?_; rintro e w' ⟨rfl, rfl⟩)
  go_ret2
  exact ⟨rfl, rfl⟩

theorem canon_self (n : Nat) : canon n = n ↔ (isN n = false ∨ n = 9221120237041090560) := by
  unfold canon
  cases isN n <;> simp
  exact eq_comm

set_option maxHeartbeats 400000 in
theorem rof_nan (w : World) : Calls Try.prog 182 #[.int .u64 9221120237041090560] w fun e w' => e = .returned (.tuple #[.float .f64 9221120237041090560, .int .i64 0]) ∧ w = w' := by
  have hf : ∀ w : World, (callFunc 96 #[.int .u64 9221120237041090560]).run Try.prog w = .ok (.value (.float .f64 9221120237041090560)) w := ffrom 9221120237041090560
  have n0 := neq_self 9221120237041090560
  have k : isN 9221120237041090560 = true := by decide
  rw [k] at n0
  clear k
  go_enter Try.func182, Try.ntmps182
  go_wp2
  go_ret2
  exact ⟨rfl, rfl⟩
set_option maxHeartbeats 400000 in
/-- The document's Of: bits that are a form. -/
theorem rof_ok (n : Nat) (w : World) (h : canon n = n) : Calls Try.prog 182 #[.int .u64 (n : Int)] w fun e w' => e = .returned (.tuple #[.float .f64 n, .int .i64 0]) ∧ w = w' := by
  have hf := ffrom n
  have n0 := neq_self n
  rcases (canon_self n).1 h with k | k
  · rw [k] at n0
    clear h k
    go_enter Try.func182, Try.ntmps182
    go_wp2
    go_ret2
    exact ⟨rfl, rfl⟩
  · subst k
    exact rof_nan w
set_option maxHeartbeats 400000 in
/-- The document's Of: bits that are none. -/
theorem rof_no (n : Nat) (w : World) (h : canon n ≠ n) : Calls Try.prog 182 #[.int .u64 (n : Int)] w fun e w' => e = .returned (.tuple #[.float .f64 0, .int .i64 5]) ∧ w = w' := by
  have hf := ffrom n
  have n0 := neq_self n
  have k : isN n = true := by
    cases k : isN n
    · exact absurd ((canon_self n).2 (.inl k)) h
    · rfl
  rw [k] at n0
  have t0 : ((n : Int) != 9221120237041090560) = true := by
    simp
    intro h2
    exact h ((canon_self n).2 (.inr (by omega)))
  clear h k
  go_enter Try.func182, Try.ntmps182
  go_wp2
  go_ret2
  exact ⟨rfl, rfl⟩

/-! ### Compare -/
end PaceA
end Go.Proofs.Ytplinpbmncccoaa
