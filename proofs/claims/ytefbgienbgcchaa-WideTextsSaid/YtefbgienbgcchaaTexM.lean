/-
  A tenth, bit by bit, as numbers. (Pure arithmetic.)
-/
import Derived.Laws.BitsAllLaws
namespace Go.Proofs.Ytefbgienbgcchaa
namespace TexM
open Go

/-- What has been read of a word behind r0, but for its last n bits. -/
def U (r0 wd n : Nat) : Nat := r0 * 2 ^ (64 - n) + wd / 2 ^ n
def QQ (r0 wd n : Nat) : Nat := U r0 wd n / 10 * 2 ^ n
def RR (r0 wd n : Nat) : Nat := U r0 wd n % 10
theorem U_step (r0 wd n : Nat) (h : n < 64) : U r0 wd n = 2 * U r0 wd (n + 1) + wd / 2 ^ n % 2 := by
  unfold U
  rw [show 64 - n = (64 - (n + 1)) + 1 by omega, Nat.pow_succ, Nat.pow_succ, ← Nat.div_div_eq_div_mul, Nat.mul_add, ← Nat.mul_assoc, ← Nat.mul_assoc]
  rw [Nat.mul_comm 2 r0, Nat.mul_assoc r0 2, Nat.mul_comm 2, ← Nat.mul_assoc]
  omega
theorem U_lt (r0 wd n : Nat) (h : n ≤ 64) (h0 : r0 < 10) (hw : wd < 18446744073709551616) : U r0 wd n < 10 * 2 ^ (64 - n) := by
  unfold U
  have e : 2 ^ (64 - n) * 2 ^ n = 18446744073709551616 := by
    rw [← Nat.pow_add, Nat.sub_add_cancel h]
  have d : wd / 2 ^ n < 2 ^ (64 - n) := (Nat.div_lt_iff_lt_mul (Nat.two_pow_pos n)).2 (by rw [e]; exact hw)
  have m : r0 * 2 ^ (64 - n) ≤ 9 * 2 ^ (64 - n) := Nat.mul_le_mul_right _ (by omega)
  omega
theorem QQ_lt (r0 wd n : Nat) (h : n ≤ 64) (h0 : r0 < 10) (hw : wd < 18446744073709551616) : QQ r0 wd n < 18446744073709551616 := by
  have a := U_lt r0 wd n h h0 hw
  have e : 2 ^ (64 - n) * 2 ^ n = 18446744073709551616 := by
    rw [← Nat.pow_add, Nat.sub_add_cancel h]
  unfold QQ
  rw [← e]
  exact Nat.mul_lt_mul_of_pos_right (by omega) (Nat.two_pow_pos n)
theorem RR_lt (r0 wd n : Nat) : RR r0 wd n < 10 := Nat.mod_lt _ (by decide)
theorem step_small (r0 wd n : Nat) (h : n < 64) (hr : RR r0 wd (n + 1) * 2 + wd / 2 ^ n % 2 < 10) : RR r0 wd n = RR r0 wd (n + 1) * 2 + wd / 2 ^ n % 2 ∧ QQ r0 wd n = QQ r0 wd (n + 1) := by
  have s := U_step r0 wd n h
  unfold RR at hr
  unfold RR QQ
  have e1 : U r0 wd n % 10 = U r0 wd (n + 1) % 10 * 2 + wd / 2 ^ n % 2 := by omega
  have e2 : U r0 wd n / 10 = U r0 wd (n + 1) / 10 * 2 := by omega
  exact ⟨e1, by rw [e2, Nat.pow_succ, Nat.mul_assoc, Nat.mul_comm 2]⟩
theorem step_big (r0 wd n : Nat) (h : n < 64) (hr : 10 ≤ RR r0 wd (n + 1) * 2 + wd / 2 ^ n % 2) : RR r0 wd n = RR r0 wd (n + 1) * 2 + wd / 2 ^ n % 2 - 10 ∧ QQ r0 wd n = QQ r0 wd (n + 1) ||| 2 ^ n := by
  have s := U_step r0 wd n h
  unfold RR at hr
  unfold RR QQ
  have e1 : U r0 wd n % 10 = U r0 wd (n + 1) % 10 * 2 + wd / 2 ^ n % 2 - 10 := by omega
  have e2 : U r0 wd n / 10 = U r0 wd (n + 1) / 10 * 2 + 1 := by omega
  refine ⟨e1, ?_⟩
  have hlt : 2 ^ n < 2 ^ (n + 1) := Nat.pow_lt_pow_right (by omega) (by omega)
  have o := Nat.two_pow_add_eq_or_of_lt (i := n + 1) (b := 2 ^ n) hlt (U r0 wd (n + 1) / 10)
  rw [Nat.mul_comm] at o
  rw [← o, e2, Nat.add_mul, Nat.one_mul, Nat.pow_succ, Nat.mul_assoc, Nat.mul_comm 2]
theorem at_end (r0 wd : Nat) : QQ r0 wd 0 = (r0 * 18446744073709551616 + wd) / 10 ∧ RR r0 wd 0 = (r0 * 18446744073709551616 + wd) % 10 := by
  unfold QQ RR U
  have e : (2 : Nat) ^ (64 - 0) = 18446744073709551616 := by decide
  rw [e, Nat.pow_zero, Nat.div_one, Nat.mul_one]
  exact ⟨rfl, rfl⟩
theorem at_start (r0 wd : Nat) (h0 : r0 < 10) (hw : wd < 18446744073709551616) : QQ r0 wd 64 = 0 ∧ RR r0 wd 64 = r0 := by
  unfold QQ RR U
  have e : (2 : Nat) ^ 64 = 18446744073709551616 := by decide
  rw [e, Nat.div_eq_of_lt hw, Nat.sub_self, Nat.pow_zero, Nat.mul_one, Nat.add_zero, Nat.div_eq_of_lt h0, Nat.mod_eq_of_lt h0, Nat.zero_mul]
  exact ⟨rfl, rfl⟩
end TexM
end Go.Proofs.Ytefbgienbgcchaa
