/-
  FltR, FltC, PaceW, in one text.
-/
import Derived.Laws.FloatBits
import Derived.Laws.FloatArith
import Derived.Test.YthcemghamdmjmaaProg
import Derived.WalkKit
import Derived.WalkSpells
import Derived.WalkLawsBesides
import Derived.BigQuiet
import Derived.BigRegion
import Derived.RegionTactic
import Derived.ChangeAlike
import Derived.Deep.QuietTactic
import Derived.StillTailTactics
import Derived.Deep.RegionHeld3
import Derived.Deep.DeepCutAuto
import Derived.KernelRfl
import Derived.Laws.Externs
import Derived.Below
import Derived.OwnWalk
import Derived.Shelf.Spec.BitsCarry
namespace Go.Proofs.Ythcemghamdmjmaa
namespace FltR
open Ieee


/-- 'n / 2^k', to the nearest, ties to even. -/
def rne (n k : Nat) : Nat := n / 2 ^ k + (if 2 ^ k < 2 * (n % 2 ^ k) ∨ (2 ^ k = 2 * (n % 2 ^ k) ∧ n / 2 ^ k % 2 = 1) then 1 else 0)

theorem cut_rne (neg : Bool) (n k : Nat) : Toward.even.cut neg n k = rne n k := by
  unfold Toward.cut rne
  simp only [Nat.shiftLeft_eq, Nat.one_mul]
  by_cases h : k ≤ n.log2 + 2
  · rw [Nat.min_eq_left h]
    by_cases c : 2 ^ k < 2 * (n % 2 ^ k) ∨ (2 ^ k = 2 * (n % 2 ^ k) ∧ n / 2 ^ k % 2 = 1)
    · rw [if_pos c]
      have : (decide (2 ^ k < 2 * (n % 2 ^ k)) || (2 ^ k == 2 * (n % 2 ^ k) && n / 2 ^ k % 2 == 1)) = true := by
        simpa using c
      rw [this]; rfl
    · rw [if_neg c]
      have : (decide (2 ^ k < 2 * (n % 2 ^ k)) || (2 ^ k == 2 * (n % 2 ^ k) && n / 2 ^ k % 2 == 1)) = false := by
        rw [Bool.eq_false_iff]; intro h; apply c; simpa using h
      rw [this]; rfl
  · have h' : n.log2 + 2 ≤ k := by omega
    rw [Nat.min_eq_right h']
    have h1 : n < 2 ^ (n.log2 + 1) := Nat.lt_log2_self
    have h2 : 2 ^ (n.log2 + 2) = 2 ^ (n.log2 + 1) * 2 := Nat.pow_succ ..
    have h3 : 2 ^ (n.log2 + 2) ≤ 2 ^ k := Nat.pow_le_pow_right (by omega) h'
    have e1 : n % 2 ^ (n.log2 + 2) = n := Nat.mod_eq_of_lt (by omega)
    have e2 : n / 2 ^ (n.log2 + 2) = 0 := Nat.div_eq_of_lt (by omega)
    have e3 : n % 2 ^ k = n := Nat.mod_eq_of_lt (by omega)
    have e4 : n / 2 ^ k = 0 := Nat.div_eq_of_lt (by omega)
    rw [e1, e2, e3, e4]
    rw [if_neg (by omega)]
    have : (decide (2 ^ (n.log2 + 2) < 2 * n) || (2 ^ (n.log2 + 2) == 2 * n && 0 % 2 == 1)) = false := by
      rw [Bool.eq_false_iff]; intro h; simp at h; omega
    rw [this]; rfl

theorem rne_mono {n n' : Nat} (k : Nat) (h : n ≤ n') : rne n k ≤ rne n' k := by
  unfold rne
  have hd : 0 < 2 ^ k := Nat.two_pow_pos _
  generalize 2 ^ k = d at *
  have q : n / d ≤ n' / d := Nat.div_le_div_right h
  rcases Nat.lt_or_ge (n / d) (n' / d) with hq | hq
  · split <;> split <;> omega
  · have e : n / d = n' / d := by omega
    have r : n % d ≤ n' % d := by
      have a := Nat.div_add_mod n d
      have b := Nat.div_add_mod n' d
      rw [e] at a
      omega
    rw [e]
    split <;> split <;> omega

theorem rne_exact (c k : Nat) : rne (c * 2 ^ k) k = c := by
  unfold rne
  have hd : 0 < 2 ^ k := Nat.two_pow_pos _
  rw [Nat.mul_mod_left, Nat.mul_div_cancel _ hd, if_neg (by omega)]
  rfl

theorem rne_scale (n k j : Nat) : rne (n * 2 ^ j) (k + j) = rne n k := by
  unfold rne
  have hj : 0 < 2 ^ j := Nat.two_pow_pos _
  rw [Nat.pow_add, Nat.mul_div_mul_right _ _ hj, Nat.mul_mod_mul_right]
  have e1 : (2 ^ k * 2 ^ j < 2 * (n % 2 ^ k * 2 ^ j)) ↔ 2 ^ k < 2 * (n % 2 ^ k) := by
    rw [← Nat.mul_assoc]; exact Nat.mul_lt_mul_right hj
  have e2 : (2 ^ k * 2 ^ j = 2 * (n % 2 ^ k * 2 ^ j)) ↔ 2 ^ k = 2 * (n % 2 ^ k) := by
    rw [← Nat.mul_assoc]
    exact ⟨fun h => Nat.eq_of_mul_eq_mul_right hj h, fun h => congrArg (· * 2 ^ j) h⟩
  simp only [e1, e2]

theorem rne_le {n k c : Nat} (h : n ≤ c * 2 ^ k) : rne n k ≤ c := by
  have := rne_mono k h
  rwa [rne_exact] at this
theorem le_rne {n k c : Nat} (h : c * 2 ^ k ≤ n) : c ≤ rne n k := by
  have := rne_mono k h
  rwa [rne_exact] at this

/-- The rung next to 'n' units of which 2^s are the least number of the format. -/
def rs (s n : Nat) : Nat := if n = 0 then 0 else min ((n.log2 - 52 - s) * 4503599627370496 + rne n ((n.log2 - 52 - s) + s)) 9218868437227405312

theorem log2_eq {n k : Nat} (h1 : 2 ^ k ≤ n) (h2 : n < 2 ^ (k + 1)) : n.log2 = k :=
  (Nat.log2_eq_iff (by have := Nat.two_pow_pos k; omega)).2 ⟨h1, h2⟩

theorem log2_scale {n : Nat} (j : Nat) (h : n ≠ 0) : (n * 2 ^ j).log2 = n.log2 + j := by
  have hj : 0 < 2 ^ j := Nat.two_pow_pos _
  refine log2_eq ?_ ?_
  · rw [Nat.pow_add]; exact Nat.mul_le_mul_right _ (Nat.log2_self_le h)
  · rw [show n.log2 + j + 1 = (n.log2 + 1) + j by omega, Nat.pow_add]
    exact Nat.mul_lt_mul_of_pos_right Nat.lt_log2_self hj

theorem rs_scale (s n j : Nat) : rs (s + j) (n * 2 ^ j) = rs s n := by
  unfold rs
  have hj : 0 < 2 ^ j := Nat.two_pow_pos _
  by_cases h : n = 0
  · simp [h]
  · have h' : n * 2 ^ j ≠ 0 := Nat.mul_ne_zero h (by omega)
    rw [if_neg h, if_neg h', log2_scale j h, show n.log2 + j - 52 - (s + j) = n.log2 - 52 - s by omega, ← Nat.add_assoc, rne_scale]

theorem rs_le (s n : Nat) : rs s n ≤ 9218868437227405312 := by
  unfold rs
  split
  · exact Nat.zero_le _
  · exact Nat.min_le_right _ _

theorem rs_mono (s : Nat) {n n' : Nat} (h : n ≤ n') : rs s n ≤ rs s n' := by
  unfold rs
  by_cases h0 : n = 0
  · rw [if_pos h0]; exact Nat.zero_le _
  · have h0' : n' ≠ 0 := by omega
    rw [if_neg h0, if_neg h0']
    have hl : n.log2 ≤ n'.log2 := (Nat.le_log2 h0').2 (Nat.le_trans (Nat.log2_self_le h0) h)
    refine Nat.le_min.2 ⟨Nat.le_trans (Nat.min_le_left _ _) ?_, Nat.min_le_right _ _⟩
    obtain ⟨t, ht⟩ : ∃ t, t = n.log2 - 52 - s := ⟨_, rfl⟩
    obtain ⟨t', ht'⟩ : ∃ t', t' = n'.log2 - 52 - s := ⟨_, rfl⟩
    rw [← ht, ← ht']
    rcases Nat.lt_or_ge t t' with hlt | hge
    · have a : rne n (t + s) ≤ 2 * 4503599627370496 := by
        refine rne_le ?_
        have : n < 2 ^ (n.log2 + 1) := Nat.lt_log2_self
        have p : 2 ^ (n.log2 + 1) ≤ 2 ^ (53 + (t + s)) := Nat.pow_le_pow_right (by omega) (by omega)
        rw [Nat.pow_add 2 53] at p
        have e : (2 : Nat) ^ 53 = 2 * 4503599627370496 := by decide
        rw [e] at p
        omega
      have b : 4503599627370496 ≤ rne n' (t' + s) := by
        refine le_rne ?_
        have p : 2 ^ (52 + (t' + s)) ≤ 2 ^ n'.log2 := Nat.pow_le_pow_right (by omega) (by omega)
        rw [Nat.pow_add 2 52] at p
        have e : (2 : Nat) ^ 52 = 4503599627370496 := by decide
        rw [e] at p
        exact Nat.le_trans p (Nat.log2_self_le h0')
      have : (t + 1) * 4503599627370496 ≤ t' * 4503599627370496 := Nat.mul_le_mul_right _ hlt
      omega
    · have e : t = t' := by omega
      rw [e]
      have := rne_mono (t' + s) h
      omega

/-- The number of a rung, in units of the least one. -/
def mg (r : Nat) : Nat := if r < 4503599627370496 then r else 4503599627370496 + r % 4503599627370496
def pl (r : Nat) : Nat := if r < 4503599627370496 then 0 else r / 4503599627370496 - 1
def V (r : Nat) : Nat := mg r * 2 ^ pl r

theorem V_zero : V 0 = 0 := by decide

theorem mg_lt (r : Nat) : mg r < 2 * 4503599627370496 := by unfold mg; split <;> omega

theorem V_lt {r r' : Nat} (h : r < r') : V r < V r' := by
  unfold V mg pl
  by_cases h1 : r' < 4503599627370496
  · rw [if_pos (by omega), if_pos h1, if_pos (by omega), if_pos h1]; simpa using h
  · rw [if_neg h1, if_neg h1]
    have hp : 1 ≤ 2 ^ (r' / 4503599627370496 - 1) := Nat.two_pow_pos _
    by_cases h2 : r < 4503599627370496
    · rw [if_pos h2, if_pos h2]
      have : (4503599627370496 + r' % 4503599627370496) * 1 ≤ (4503599627370496 + r' % 4503599627370496) * 2 ^ (r' / 4503599627370496 - 1) := Nat.mul_le_mul_left _ hp
      simp only [Nat.pow_zero, Nat.mul_one] at this ⊢
      omega
    · rw [if_neg h2, if_neg h2]
      by_cases hq : r / 4503599627370496 = r' / 4503599627370496
      · rw [hq]
        refine Nat.mul_lt_mul_of_pos_right ?_ hp
        omega
      · have hq' : r / 4503599627370496 - 1 + 1 ≤ r' / 4503599627370496 - 1 := by omega
        have p : 2 ^ (r / 4503599627370496 - 1 + 1) ≤ 2 ^ (r' / 4503599627370496 - 1) := Nat.pow_le_pow_right (by omega) hq'
        rw [Nat.pow_succ] at p
        have a : (4503599627370496 + r % 4503599627370496) * 2 ^ (r / 4503599627370496 - 1) < (2 * 4503599627370496) * 2 ^ (r / 4503599627370496 - 1) := Nat.mul_lt_mul_of_pos_right (by omega) (Nat.two_pow_pos _)
        have b : 4503599627370496 * (2 ^ (r / 4503599627370496 - 1) * 2) ≤ (4503599627370496 + r' % 4503599627370496) * 2 ^ (r' / 4503599627370496 - 1) := Nat.mul_le_mul (by omega) p
        have c : 4503599627370496 * (2 ^ (r / 4503599627370496 - 1) * 2) = (2 * 4503599627370496) * 2 ^ (r / 4503599627370496 - 1) := by
          rw [Nat.mul_comm (2 ^ (r / 4503599627370496 - 1)) 2, ← Nat.mul_assoc, Nat.mul_comm 4503599627370496 2]
        omega

theorem V_le {r r' : Nat} (h : r ≤ r') : V r ≤ V r' := by
  rcases Nat.lt_or_ge r r' with h' | h'
  · exact Nat.le_of_lt (V_lt h')
  · rw [show r = r' by omega]; exact Nat.le_refl _

/-- A number of the format is met. -/
theorem rs_V (s r : Nat) (h : r ≤ 9218868437227405312) : rs s (V r * 2 ^ s) = r := by
  have e0 := rs_scale 0 (V r) s
  rw [Nat.zero_add] at e0
  rw [e0]
  unfold rs V mg pl
  by_cases h1 : r < 4503599627370496
  · rw [if_pos h1, if_pos h1, Nat.pow_zero, Nat.mul_one]
    by_cases h0 : r = 0
    · rw [if_pos h0, h0]
    · rw [if_neg h0]
      have hl : r.log2 < 52 := (Nat.log2_lt h0).2 (by have : (2 : Nat) ^ 52 = 4503599627370496 := by decide
                                                      omega)
      rw [show r.log2 - 52 - 0 = 0 by omega]
      have := rne_exact r 0
      rw [Nat.pow_zero, Nat.mul_one] at this
      rw [Nat.add_zero, this]
      omega
  · rw [if_neg h1, if_neg h1]
    obtain ⟨p, hp⟩ : ∃ p, p = r / 4503599627370496 - 1 := ⟨_, rfl⟩
    rw [← hp]
    have p52 : (2 : Nat) ^ 52 = 4503599627370496 := by decide
    have p53 : (2 : Nat) ^ (52 + 1) = 2 * 4503599627370496 := by decide
    have hm : (4503599627370496 + r % 4503599627370496).log2 = 52 := log2_eq (by rw [p52]; omega) (by rw [p53]; omega)
    have hn : (4503599627370496 + r % 4503599627370496) * 2 ^ p ≠ 0 := Nat.mul_ne_zero (by omega) (by have := Nat.two_pow_pos p; omega)
    rw [if_neg hn, log2_scale p (by omega), hm, show 52 + p - 52 - 0 = p by omega, Nat.add_zero, rne_exact]
    omega

/-- A power of two is a number of the format. -/
def two (j : Nat) : Nat := if j < 52 then 2 ^ j else (j - 51) * 4503599627370496
theorem V_two (j : Nat) : V (two j) = 2 ^ j := by
  unfold two
  by_cases h : j < 52
  · rw [if_pos h]
    have : 2 ^ j < 4503599627370496 := by
      have a : 2 ^ j < 2 ^ 52 := Nat.pow_lt_pow_right (by omega) h
      have : (2 : Nat) ^ 52 = 4503599627370496 := by decide
      omega
    unfold V mg pl
    rw [if_pos this, if_pos this]; simp
  · rw [if_neg h]
    unfold V mg pl
    have h1 : ¬ (j - 51) * 4503599627370496 < 4503599627370496 := by
      have : 1 * 4503599627370496 ≤ (j - 51) * 4503599627370496 := Nat.mul_le_mul_right _ (by omega)
      omega
    rw [if_neg h1, if_neg h1, Nat.mul_mod_left, Nat.mul_div_cancel _ (by decide), Nat.add_zero]
    have : (2 : Nat) ^ 52 = 4503599627370496 := by decide
    rw [← this, ← Nat.pow_add]
    congr 1
    omega

theorem rs_two_le (j : Nat) : rs 0 (2 ^ j) ≤ two j := by
  rcases Nat.lt_or_ge 9218868437227405312 (two j) with h | h
  · exact Nat.le_trans (rs_le _ _) (Nat.le_of_lt h)
  · have := rs_V 0 (two j) h
    rw [Nat.pow_zero, Nat.mul_one, V_two] at this
    omega

/-- An eighth of what is next to n, rounded, is not above n. -/
theorem eighth_le (n : Nat) : V (rs 3 (V (rs 0 n))) ≤ n := by
  by_cases h0 : n = 0
  · subst h0; decide
  · obtain ⟨j, hj⟩ : ∃ j, j = n.log2 := ⟨_, rfl⟩
    have l1 : 2 ^ j ≤ n := by rw [hj]; exact Nat.log2_self_le h0
    have l2 : n ≤ 2 ^ (j + 1) := by rw [hj]; exact Nat.le_of_lt Nat.lt_log2_self
    have a : V (rs 0 n) ≤ 2 ^ (j + 1) := by
      have := V_le (Nat.le_trans (rs_mono 0 l2) (rs_two_le (j + 1)))
      rwa [V_two] at this
    by_cases hs : j < 2
    · have b : 2 ^ (j + 1) ≤ 4 := by
        have : 2 ^ (j + 1) ≤ 2 ^ 2 := Nat.pow_le_pow_right (by omega) (by omega)
        omega
      have c := rs_mono 3 (Nat.le_trans a b)
      have d : rs 3 4 = 0 := by decide
      rw [d] at c
      have := V_le c
      rw [V_zero] at this
      omega
    · have c := rs_mono 3 a
      have e := rs_scale 0 (2 ^ (j - 2)) 3
      rw [← Nat.pow_add, Nat.zero_add, show j - 2 + 3 = j + 1 by omega] at e
      rw [e] at c
      have := V_le (Nat.le_trans c (rs_two_le (j - 2)))
      rw [V_two] at this
      have : 2 ^ (j - 2) ≤ 2 ^ j := Nat.pow_le_pow_right (by omega) (by omega)
      omega

/-! ### Words -/

/-- A number with its sign. -/
def sg (s : Bool) (n : Nat) : Int := if s then -(n : Int) else n
/-- A word's sign, and its rung. -/
def ng (x : Nat) : Bool := x / 9223372036854775808 % 2 == 1
def rg (x : Nat) : Nat := x % 9223372036854775808
/-- Where a word stands among numbers. -/
def key (x : Nat) : Int := sg (ng x) (rg x)
/-- Its number, in units of the least one. -/
def val (x : Nat) : Int := sg (ng x) (V (rg x))

theorem rg_lt (x : Nat) : rg x < 9223372036854775808 := Nat.mod_lt _ (by decide)

theorem read_num {x : Nat} (h : rg x < 9218868437227405312) : double.read x = .number (ng x) (mg (rg x)) (-1074 + (pl (rg x) : Int)) := by
  have h' : x % 9223372036854775808 < 9218868437227405312 := h
  show (if x % 9223372036854775808 < 4503599627370496 then Datum.number (x / 9223372036854775808 % 2 == 1) (x % 9223372036854775808) (-1074)
    else if x % 9223372036854775808 < 9218868437227405312 then Datum.number (x / 9223372036854775808 % 2 == 1) (4503599627370496 + x % 9223372036854775808 % 4503599627370496) (-1074 + ((x % 9223372036854775808 / 4503599627370496 - 1 : Nat) : Int))
    else if x % 9223372036854775808 = 9218868437227405312 then Datum.infinity (x / 9223372036854775808 % 2 == 1) else Datum.nan (x / 9223372036854775808 % 2 == 1) (x % 9223372036854775808 - 9218868437227405312)) = _
  unfold ng rg mg pl
  by_cases h1 : x % 9223372036854775808 < 4503599627370496
  · rw [if_pos h1, if_pos h1, if_pos h1]; rfl
  · rw [if_neg h1, if_neg h1, if_neg h1, if_pos h']
theorem read_inf {x : Nat} (h : rg x = 9218868437227405312) : double.read x = .infinity (ng x) := by
  have h' : x % 9223372036854775808 = 9218868437227405312 := h
  show (if x % 9223372036854775808 < 4503599627370496 then Datum.number (x / 9223372036854775808 % 2 == 1) (x % 9223372036854775808) (-1074)
    else if x % 9223372036854775808 < 9218868437227405312 then Datum.number (x / 9223372036854775808 % 2 == 1) (4503599627370496 + x % 9223372036854775808 % 4503599627370496) (-1074 + ((x % 9223372036854775808 / 4503599627370496 - 1 : Nat) : Int))
    else if x % 9223372036854775808 = 9218868437227405312 then Datum.infinity (x / 9223372036854775808 % 2 == 1) else Datum.nan (x / 9223372036854775808 % 2 == 1) (x % 9223372036854775808 - 9218868437227405312)) = _
  rw [if_neg (by omega), if_neg (by omega), if_pos h']; rfl
theorem read_nan {x : Nat} (h : 9218868437227405312 < rg x) : double.read x = .nan (ng x) (rg x - 9218868437227405312) := by
  have h' : 9218868437227405312 < x % 9223372036854775808 := h
  show (if x % 9223372036854775808 < 4503599627370496 then Datum.number (x / 9223372036854775808 % 2 == 1) (x % 9223372036854775808) (-1074)
    else if x % 9223372036854775808 < 9218868437227405312 then Datum.number (x / 9223372036854775808 % 2 == 1) (4503599627370496 + x % 9223372036854775808 % 4503599627370496) (-1074 + ((x % 9223372036854775808 / 4503599627370496 - 1 : Nat) : Int))
    else if x % 9223372036854775808 = 9218868437227405312 then Datum.infinity (x / 9223372036854775808 % 2 == 1) else Datum.nan (x / 9223372036854775808 % 2 == 1) (x % 9223372036854775808 - 9218868437227405312)) = _
  rw [if_neg (by omega), if_neg (by omega), if_neg (by omega)]; rfl

theorem signed_sg (s : Bool) (m k : Nat) : signed s m k = sg s (m * 2 ^ k) := by
  unfold signed sg
  rw [Nat.shiftLeft_eq]

theorem sg_mul (s : Bool) (n c : Nat) : sg s n * (c : Int) = sg s (n * c) := by
  unfold sg
  cases s <;> simp [Int.neg_mul]

theorem cmp_congr {a b c d : Int} (h1 : a < b ↔ c < d) (h2 : b < a ↔ d < c) : compare a b = compare c d := by
  rcases Int.lt_trichotomy a b with h | h | h
  · rw [Int.compare_eq_lt.2 h, Int.compare_eq_lt.2 (h1.1 h)]
  · have e : c = d := by
      have n1 : ¬ c < d := fun k => by have := h1.2 k; omega
      have n2 : ¬ d < c := fun k => by have := h2.2 k; omega
      omega
    rw [Int.compare_eq_eq.2 h, Int.compare_eq_eq.2 e]
  · rw [Int.compare_eq_gt.2 h, Int.compare_eq_gt.2 (h2.1 h)]

theorem mul_lt_iff {a b : Int} {c : Nat} (hc : 0 < c) : a < b ↔ a * (c : Int) < b * (c : Int) :=
  ⟨fun h => Int.mul_lt_mul_of_pos_right h (by omega), fun h => Int.lt_of_mul_lt_mul_right h (by omega)⟩

theorem sg_V_lt (s t : Bool) (r q : Nat) : sg s (V r) < sg t (V q) ↔ sg s r < sg t q := by
  have h0 := V_zero
  have hr : r = 0 ∨ 0 < V r := by
    rcases Nat.eq_zero_or_pos r with h | h
    · exact .inl h
    · right; have := V_lt h; omega
  have hq : q = 0 ∨ 0 < V q := by
    rcases Nat.eq_zero_or_pos q with h | h
    · exact .inl h
    · right; have := V_lt h; omega
  have hrq : r < q → V r < V q := V_lt
  have hqr : q < r → V q < V r := V_lt
  have he : r = q → V r = V q := fun h => by rw [h]
  have r0 : r = 0 → V r = 0 := fun h => by rw [h, h0]
  have q0 : q = 0 → V q = 0 := fun h => by rw [h, h0]
  unfold sg
  rcases Nat.lt_trichotomy r q with h | h | h
  · have := hrq h
    cases s <;> cases t <;> simp <;> omega
  · have := he h
    cases s <;> cases t <;> simp <;> omega
  · have := hqr h
    cases s <;> cases t <;> simp <;> omega

theorem ord_nan_left {x : Nat} (y : Nat) (h : 9218868437227405312 < rg x) : double.order x y = none := by
  unfold Format.order
  rw [read_nan h]; rfl
theorem ord_nan_right (x : Nat) {y : Nat} (h : 9218868437227405312 < rg y) : double.order x y = none := by
  unfold Format.order
  rw [read_nan h]
  cases double.read x <;> rfl

theorem sub_min (a b : Nat) : (-1074 + (a : Int) - min (-1074 + (a : Int)) (-1074 + (b : Int))).toNat = a - min a b := by omega
theorem sub_min' (a b : Nat) : (-1074 + (b : Int) - min (-1074 + (a : Int)) (-1074 + (b : Int))).toNat = b - min a b := by omega

theorem scaled (s : Bool) (r a m : Nat) (hm : m ≤ a) : sg s (r * 2 ^ (a - m)) * ((2 ^ m : Nat) : Int) = sg s (r * 2 ^ a) := by
  rw [sg_mul, Nat.mul_assoc, ← Nat.pow_add, Nat.sub_add_cancel hm]

theorem ord_key {x y : Nat} (hx : rg x ≤ 9218868437227405312) (hy : rg y ≤ 9218868437227405312) : double.order x y = some (compare (key x) (key y)) := by
  unfold Format.order
  rcases Nat.lt_or_ge (rg x) 9218868437227405312 with h1 | h1 <;> rcases Nat.lt_or_ge (rg y) 9218868437227405312 with h2 | h2
  · rw [read_num h1, read_num h2]
    show some (compare (signed _ _ _) (signed _ _ _)) = _
    rw [signed_sg, signed_sg, sub_min, sub_min']
    congr 1
    have hp : 0 < 2 ^ min (pl (rg x)) (pl (rg y)) := Nat.two_pow_pos _
    refine cmp_congr ?_ ?_
    · rw [mul_lt_iff hp, scaled _ _ _ _ (Nat.min_le_left _ _), scaled _ _ _ _ (Nat.min_le_right _ _)]
      exact sg_V_lt _ _ _ _
    · rw [mul_lt_iff hp, scaled _ _ _ _ (Nat.min_le_left _ _), scaled _ _ _ _ (Nat.min_le_right _ _)]
      exact sg_V_lt _ _ _ _
  · have e2 : rg y = 9218868437227405312 := by omega
    rw [read_num h1, read_inf e2]
    show some (if ng y then Ordering.gt else Ordering.lt) = _
    congr 1
    unfold key sg
    rw [e2]
    cases ng y <;> cases ng x <;> simp
    · exact (Int.compare_eq_lt.2 (by omega)).symm
    · exact (Int.compare_eq_lt.2 (by omega)).symm
    · exact (Int.compare_eq_gt.2 (by omega)).symm
    · exact (Int.compare_eq_gt.2 (by omega)).symm
  · have e1 : rg x = 9218868437227405312 := by omega
    rw [read_num h2, read_inf e1]
    show some (if ng x then Ordering.lt else Ordering.gt) = _
    congr 1
    unfold key sg
    rw [e1]
    cases ng y <;> cases ng x <;> simp
    · exact (Int.compare_eq_gt.2 (by omega)).symm
    · exact (Int.compare_eq_lt.2 (by omega)).symm
    · exact (Int.compare_eq_gt.2 (by omega)).symm
    · exact (Int.compare_eq_lt.2 (by omega)).symm
  · have e1 : rg x = 9218868437227405312 := by omega
    have e2 : rg y = 9218868437227405312 := by omega
    rw [read_inf e2, read_inf e1]
    show some (compare (ng y).toNat (ng x).toNat) = _
    congr 1
    unfold key sg
    rw [e1, e2]
    cases ng y <;> cases ng x <;> decide

/-! ### What is written -/

theorem nearest_rs (b : Bool) (mag : Nat) (place : Int) (s : Nat) (h : -1074 - (s : Int) ≤ place) :
    double.nearest b mag place = double.word b (rs s (mag * 2 ^ (place + 1074 + s).toNat)) := by
  show (if mag = 0 then double.word b 0 else
    double.word b (min ((max (place + mag.log2 - (52 : Nat)) (-1074) - (-1074)).toNat * 4503599627370496 + Toward.even.cut b (mag <<< (place - max (place + mag.log2 - (52 : Nat)) (-1074)).toNat) (max (place + mag.log2 - (52 : Nat)) (-1074) - place).toNat) 9218868437227405312)) = _
  by_cases h0 : mag = 0
  · rw [if_pos h0, h0, Nat.zero_mul]; rfl
  · rw [if_neg h0]
    obtain ⟨e, he⟩ : ∃ e, e = (place + 1074 + (s : Int)).toNat := ⟨_, rfl⟩
    have hpl : place = (e : Int) - 1074 - s := by omega
    rw [← he, cut_rne, Nat.shiftLeft_eq]
    unfold rs
    have hne : mag * 2 ^ e ≠ 0 := Nat.mul_ne_zero h0 (by have := Nat.two_pow_pos e; omega)
    rw [if_neg hne, log2_scale e h0]
    obtain ⟨t, ht⟩ : ∃ t, t = mag.log2 + e - 52 - s := ⟨_, rfl⟩
    have e1 : (max (place + mag.log2 - (52 : Nat)) (-1074) - (-1074)).toNat = t := by omega
    have e2 : (place - max (place + mag.log2 - (52 : Nat)) (-1074)).toNat = e - (t + s) := by omega
    have e3 : (max (place + mag.log2 - (52 : Nat)) (-1074) - place).toNat = t + s - e := by omega
    rw [e1, e2, e3, ← ht]
    congr 3
    rcases Nat.le_total e (t + s) with hle | hle
    · rw [show e - (t + s) = 0 by omega, Nat.pow_zero, Nat.mul_one]
      have := rne_scale mag (t + s - e) e
      rw [Nat.sub_add_cancel hle] at this
      exact this.symm
    · rw [show t + s - e = 0 by omega]
      have := rne_scale (mag * 2 ^ (e - (t + s))) 0 (t + s)
      rw [Nat.mul_assoc, ← Nat.pow_add, Nat.sub_add_cancel hle, Nat.zero_add] at this
      exact this.symm

theorem word_eq (b : Bool) (r : Nat) : double.word b r = if b then 9223372036854775808 + r else r := rfl
theorem rg_word (b : Bool) {r : Nat} (h : r ≤ 9218868437227405312) : rg (double.word b r) = r := by
  rw [word_eq]; unfold rg
  cases b <;> simp <;> omega
theorem ng_word (b : Bool) {r : Nat} (h : r ≤ 9218868437227405312) : ng (double.word b r) = b := by
  rw [word_eq]; unfold ng
  cases b
  · have : r / 9223372036854775808 = 0 := by omega
    simp [this]
  · have : (9223372036854775808 + r) / 9223372036854775808 = 1 := by omega
    simp [this]

/-- What is next to a number with its sign. -/
def RI (T : Int) : Int := if T < 0 then -(rs 0 T.natAbs : Int) else rs 0 T.natAbs
theorem RI_mono {T U : Int} (h : T ≤ U) : RI T ≤ RI U := by
  unfold RI
  by_cases h1 : T < 0
  · rw [if_pos h1]
    by_cases h2 : U < 0
    · rw [if_pos h2]
      have := rs_mono 0 (n := U.natAbs) (n' := T.natAbs) (by omega)
      omega
    · rw [if_neg h2]; omega
  · rw [if_neg h1, if_neg (by omega)]
    have := rs_mono 0 (n := T.natAbs) (n' := U.natAbs) (by omega)
    omega
theorem RI_val {x : Nat} (h : rg x < 9218868437227405312) : RI (val x) = key x := by
  have := rs_V 0 (rg x) (Nat.le_of_lt h)
  rw [Nat.pow_zero, Nat.mul_one] at this
  unfold RI val key sg
  cases ng x
  · simp [this]; omega
  · simp
    by_cases h0 : 0 < V (rg x)
    · rw [if_pos h0, this]
    · rw [if_neg h0, this]
      have : rg x = 0 := by
        rcases Nat.eq_zero_or_pos (rg x) with k | k
        · exact k
        · have := V_lt k; omega
      omega

/-- A sum of two numbers: the word next to it. -/
theorem sum_word {s t : Bool} {m n a b : Nat} : ∃ neg, ((Datum.number s m (-1074 + (a : Int))).sum (.number t n (-1074 + (b : Int)))).map double.write = some (double.word neg (rs 0 (sg s (m * 2 ^ a) + sg t (n * 2 ^ b)).natAbs)) ∧
    (sg s (m * 2 ^ a) + sg t (n * 2 ^ b) < 0 → neg = true) ∧ (0 < sg s (m * 2 ^ a) + sg t (n * 2 ^ b) → neg = false) := by
  obtain ⟨total, ht⟩ : ∃ total, total = sg s (m * 2 ^ (a - min a b)) + sg t (n * 2 ^ (b - min a b)) := ⟨_, rfl⟩
  have hp : 0 < 2 ^ min a b := Nat.two_pow_pos _
  have hT : total * ((2 ^ min a b : Nat) : Int) = sg s (m * 2 ^ a) + sg t (n * 2 ^ b) := by
    rw [ht, Int.add_mul, scaled _ _ _ _ (Nat.min_le_left _ _), scaled _ _ _ _ (Nat.min_le_right _ _)]
  refine ⟨if total = 0 then s && t else decide (total < 0), ?_, ?_, ?_⟩
  · show some (double.nearest (if signed s m _ + signed t n _ = 0 then s && t else decide (signed s m _ + signed t n _ < 0)) (signed s m _ + signed t n _).natAbs (min _ _)) = _
    rw [signed_sg, signed_sg, sub_min, sub_min', ← ht, ← hT]
    congr 1
    rw [nearest_rs _ _ _ 0 (by omega), Int.natAbs_mul]
    congr 3
    rw [Int.natAbs_natCast]
    congr 1
    omega
  · intro h
    rw [← hT] at h
    have : total < 0 := by
      have := (mul_lt_iff (a := total) (b := 0) hp).2 (by rw [Int.zero_mul]; exact h)
      exact this
    rw [if_neg (by omega)]; simpa using this
  · intro h
    rw [← hT] at h
    have : 0 < total := by
      have := (mul_lt_iff (a := 0) (b := total) hp).2 (by rw [Int.zero_mul]; exact h)
      exact this
    rw [if_neg (by omega)]; simp; omega

theorem key_word {neg : Bool} {T : Int} (h1 : T < 0 → neg = true) (h2 : 0 < T → neg = false) : key (double.word neg (rs 0 T.natAbs)) = RI T := by
  unfold key
  rw [rg_word _ (rs_le _ _), ng_word _ (rs_le _ _)]
  unfold sg RI
  rcases Int.lt_trichotomy T 0 with h | h | h
  · rw [h1 h, if_pos h]; rfl
  · subst h
    have : rs 0 (0 : Int).natAbs = 0 := rfl
    rw [this]; cases neg <;> rfl
  · rw [h2 h, if_neg (show ¬ T < 0 by omega)]; rfl

theorem add_fin {x y : Nat} (hx : rg x < 9218868437227405312) (hy : rg y < 9218868437227405312) : ∃ z, double.add x y = some z ∧ key z = RI (val x + val y) ∧ rg z ≤ 9218868437227405312 := by
  unfold Format.add
  rw [read_num hx, read_num hy]
  obtain ⟨neg, h, h1, h2⟩ := sum_word (s := ng x) (t := ng y) (m := mg (rg x)) (n := mg (rg y)) (a := pl (rg x)) (b := pl (rg y))
  refine ⟨_, h, key_word h1 h2, ?_⟩
  rw [rg_word _ (rs_le _ _)]
  exact rs_le _ _

theorem sg_not (s : Bool) (n : Nat) : sg (!s) n = - sg s n := by cases s <;> simp [sg]

theorem sub_fin {x y : Nat} (hx : rg x < 9218868437227405312) (hy : rg y < 9218868437227405312) : ∃ neg, double.sub y x = some (double.word neg (rs 0 (val y - val x).natAbs)) ∧ (val y - val x < 0 → neg = true) ∧ (0 < val y - val x → neg = false) := by
  unfold Format.sub
  rw [read_num hx, read_num hy]
  obtain ⟨neg, h, h1, h2⟩ := sum_word (s := ng y) (t := !ng x) (m := mg (rg y)) (n := mg (rg x)) (a := pl (rg y)) (b := pl (rg x))
  have e : sg (ng y) (mg (rg y) * 2 ^ pl (rg y)) + sg (!ng x) (mg (rg x) * 2 ^ pl (rg x)) = val y - val x := by
    rw [sg_not]; rfl
  rw [e] at h h1 h2
  exact ⟨neg, h, h1, h2⟩

/-- An eighth of a number. -/
theorem div8 (neg : Bool) {r : Nat} (hr : r < 9218868437227405312) : double.div (double.word neg r) 4620693217682128896 = some (double.word neg (rs 3 (V r))) := by
  unfold Format.div
  rw [read_num (x := double.word neg r) (by rw [rg_word _ (Nat.le_of_lt hr)]; exact hr), rg_word _ (Nat.le_of_lt hr), ng_word _ (Nat.le_of_lt hr),
    show double.read 4620693217682128896 = .number false 4503599627370496 (-49) by decide]
  obtain ⟨more, hm⟩ : ∃ more, more = 54 + 52 - (mg r).log2 := ⟨_, rfl⟩
  have hl : Nat.log2 4503599627370496 = 52 := by decide
  show some (double.nearest (neg ^^ false) (2 * ((mg r <<< (54 + Nat.log2 4503599627370496 - (mg r).log2)) / 4503599627370496) + ((mg r <<< (54 + Nat.log2 4503599627370496 - (mg r).log2)) % 4503599627370496 != 0).toNat) (-1074 + (pl r : Int) - -49 - ((54 + Nat.log2 4503599627370496 - (mg r).log2 : Nat) : Int) - 1)) = _
  rw [hl, ← hm, Nat.shiftLeft_eq]
  have hb : (mg r).log2 ≤ 53 := by
    rcases Nat.eq_zero_or_pos (mg r) with h | h
    · rw [h]; decide
    · have := (Nat.log2_lt (n := mg r) (k := 53) (by omega)).2 (by have := mg_lt r; have e : (2 : Nat) ^ 53 = 2 * 4503599627370496 := by decide
                                                                   omega)
      omega
  have h52 : 4503599627370496 = 2 ^ 52 := by decide
  have e1 : mg r * 2 ^ more = mg r * 2 ^ (more - 52) * 4503599627370496 := by
    rw [h52, Nat.mul_assoc, ← Nat.pow_add, show more - 52 + 52 = more by omega]
  rw [e1, Nat.mul_mod_left, Nat.mul_div_cancel _ (by decide)]
  rw [nearest_rs _ _ _ 64 (by omega)]
  have hx : (neg ^^ false) = neg := by cases neg <;> rfl
  rw [hx]
  congr 2
  have e2 : (-1074 + (pl r : Int) - -49 - (more : Int) - 1 + 1074 + ((64 : Nat) : Int)).toNat = pl r + 112 - more := by omega
  rw [e2]
  have e3 : (2 * (mg r * 2 ^ (more - 52)) + ((0 : Nat) != 0).toNat) * 2 ^ (pl r + 112 - more) = V r * 2 ^ 61 := by
    have : ((0 : Nat) != 0).toNat = 0 := by decide
    rw [this, Nat.add_zero, Nat.mul_comm 2, Nat.mul_assoc, Nat.mul_assoc]
    unfold V
    rw [Nat.mul_assoc]
    congr 1
    rw [← Nat.pow_add, show (2 : Nat) * 2 ^ (pl r + 112 - more) = 2 ^ (pl r + 112 - more + 1) by rw [Nat.pow_succ, Nat.mul_comm], ← Nat.pow_add]
    congr 1
    omega
  rw [e3]
  exact rs_scale 3 (V r) 61

/-- P2.5: what is smoothed lies between. -/
theorem stays {x y d : Nat} (hx : rg x < 9218868437227405312) (hy : rg y < 9218868437227405312) (hd : double.sub y x = some d) (hf : rg d ≠ 9218868437227405312) :
    ∃ e z, double.div d 4620693217682128896 = some e ∧ double.add x e = some z ∧ rg z ≤ 9218868437227405312 ∧ (key x ≤ key y → key x ≤ key z ∧ key z ≤ key y) ∧ (key y ≤ key x → key y ≤ key z ∧ key z ≤ key x) := by
  obtain ⟨neg, h, h1, h2⟩ := sub_fin hx hy
  rw [hd] at h
  obtain rfl := Option.some.inj h
  rw [rg_word _ (rs_le _ _)] at hf
  have hr : rs 0 (val y - val x).natAbs < 9218868437227405312 := by have := rs_le 0 (val y - val x).natAbs; omega
  have hr3 : rs 3 (V (rs 0 (val y - val x).natAbs)) < 9218868437227405312 := by
    have a := eighth_le (val y - val x).natAbs
    have b := rs_mono 0 a
    have c := rs_V 0 (rs 3 (V (rs 0 (val y - val x).natAbs))) (rs_le _ _)
    rw [Nat.pow_zero, Nat.mul_one] at c
    omega
  have he : rg (double.word neg (rs 3 (V (rs 0 (val y - val x).natAbs)))) < 9218868437227405312 := by rw [rg_word _ (Nat.le_of_lt hr3)]; exact hr3
  obtain ⟨z, z1, z2, z3⟩ := add_fin hx he
  refine ⟨_, z, div8 neg hr, z1, z3, ?_⟩
  have hv : val (double.word neg (rs 3 (V (rs 0 (val y - val x).natAbs)))) = sg neg (V (rs 3 (V (rs 0 (val y - val x).natAbs)))) := by
    generalize rs 3 (V (rs 0 (val y - val x).natAbs)) = q at hr3 ⊢
    unfold val
    rw [rg_word _ (Nat.le_of_lt hr3), ng_word _ (Nat.le_of_lt hr3)]
  rw [hv] at z2
  have a := eighth_le (val y - val x).natAbs
  obtain ⟨E, hE⟩ : ∃ E, E = V (rs 3 (V (rs 0 (val y - val x).natAbs))) := ⟨_, rfl⟩
  rw [← hE] at a z2
  rw [z2, ← RI_val hx, ← RI_val hy]
  unfold sg
  rcases Int.lt_trichotomy (val y - val x) 0 with g | g | g
  · rw [h1 g]
    simp only [if_true]
    have m1 := RI_mono (T := val y) (U := val x + -(E : Int)) (by omega)
    have m2 := RI_mono (T := val x + -(E : Int)) (U := val x) (by omega)
    have m3 := RI_mono (T := val y) (U := val x) (by omega)
    omega
  · have : E = 0 := by rw [g] at a; simpa using a
    subst this
    have : val x = val y := by omega
    rw [this]
    cases neg <;> simp
  · rw [h2 g]
    have m1 := RI_mono (T := val x) (U := val x + (E : Int)) (by omega)
    have m2 := RI_mono (T := val x + (E : Int)) (U := val y) (by omega)
    have m3 := RI_mono (T := val x) (U := val y) (by omega)
    simp
    omega
end FltR
end Go.Proofs.Ythcemghamdmjmaa

namespace Go.Proofs.Ythcemghamdmjmaa
namespace FltC
open Ieee FltR

/-- Is a word a NaN's? -/
def isN (x : Nat) : Bool := decide (9218868437227405312 < rg x)
/-- Its form. -/
def canon (x : Nat) : Nat := if isN x then 9221120237041090560 else x
/-- Its place in the order of paces. -/
def rank (x : Nat) : Int := if isN x then 18446744073709551616 else if ng x then -(rg x : Int) - 1 else rg x
/-- How two numbers stand. -/
def cmp3 (a b : Int) : Int := if a < b then -1 else if b < a then 1 else 0

theorem isN_true {x : Nat} (h : isN x = true) : 9218868437227405312 < rg x := by simpa [isN] using h
theorem isN_false {x : Nat} (h : isN x = false) : rg x ≤ 9218868437227405312 := by simpa [isN] using h

theorem neq_self (x : Nat) : (Go.FloatKind.f64.format.order x x != some .eq) = isN x := by
  show (double.order x x != some .eq) = isN x
  cases h : isN x with
  | true => rw [ord_nan_left x (isN_true h)]; rfl
  | false => rw [ord_key (isN_false h) (isN_false h), Int.compare_eq_eq.2 rfl]; rfl
theorem eql_self (x : Nat) : (Go.FloatKind.f64.format.order x x == some .eq) = !isN x := by
  rw [← neq_self]; simp [bne]

theorem ord_some {x y : Nat} (hx : isN x = false) (hy : isN y = false) : Go.FloatKind.f64.format.order x y = some (compare (key x) (key y)) :=
  ord_key (isN_false hx) (isN_false hy)
theorem ord_none {x y : Nat} (h : isN x = true ∨ isN y = true) : Go.FloatKind.f64.format.order x y = none := by
  rcases h with h | h
  · exact ord_nan_left y (isN_true h)
  · exact ord_nan_right x (isN_true h)

theorem key_eq (x : Nat) : key x = if ng x then -(rg x : Int) else rg x := rfl

/-- The three ways in which two numbers stand. -/
theorem ord_ways {x y : Nat} (hx : isN x = false) (hy : isN y = false) :
    (Go.FloatKind.f64.format.order x y = some .lt ∧ Go.FloatKind.f64.format.order y x = some .gt ∧ key x < key y ∧ cmp3 (rank x) (rank y) = -1) ∨
    (Go.FloatKind.f64.format.order x y = some .gt ∧ Go.FloatKind.f64.format.order y x = some .lt ∧ key y < key x ∧ cmp3 (rank x) (rank y) = 1) ∨
    (Go.FloatKind.f64.format.order x y = some .eq ∧ Go.FloatKind.f64.format.order y x = some .eq ∧ key x = key y ∧ cmp3 (rank x) (rank y) = (if ng y then 1 else 0) - (if ng x then 1 else 0)) := by
  rw [ord_some hx hy, ord_some hy hx]
  have kx := key_eq x
  have ky := key_eq y
  rcases Int.lt_trichotomy (key x) (key y) with h | h | h
  · refine .inl ⟨by rw [Int.compare_eq_lt.2 h], by rw [Int.compare_eq_gt.2 h], h, ?_⟩
    unfold cmp3 rank
    rw [hx, hy]
    cases hnx : ng x <;> cases hny : ng y <;> rw [hnx] at kx <;> rw [hny] at ky <;> simp at kx ky ⊢ <;> omega
  · refine .inr (.inr ⟨by rw [Int.compare_eq_eq.2 h], by rw [Int.compare_eq_eq.2 h.symm], h, ?_⟩)
    unfold cmp3 rank
    rw [hx, hy]
    cases hnx : ng x <;> cases hny : ng y <;> rw [hnx] at kx <;> rw [hny] at ky <;> simp at kx ky ⊢ <;> split <;> (try split) <;> omega
  · refine .inr (.inl ⟨by rw [Int.compare_eq_gt.2 h], by rw [Int.compare_eq_lt.2 h], h, ?_⟩)
    unfold cmp3 rank
    rw [hx, hy]
    cases hnx : ng x <;> cases hny : ng y <;> rw [hnx] at kx <;> rw [hny] at ky <;> simp at kx ky ⊢ <;> split <;> (try split) <;> omega

theorem rank_nan_cmp {x y : Nat} (hx : isN x = true) (hy : isN y = true) : cmp3 (rank x) (rank y) = 0 := by
  unfold rank cmp3; rw [hx, hy]; rfl
theorem rank_lt {x : Nat} (hx : isN x = false) : rank x < 18446744073709551616 ∧ -18446744073709551616 < rank x := by
  have := rg_lt x
  unfold rank; rw [hx]
  cases ng x <;> simp <;> omega
theorem rank_nan_left {x y : Nat} (hx : isN x = true) (hy : isN y = false) : cmp3 (rank x) (rank y) = 1 := by
  have := rank_lt hy
  have e : rank x = 18446744073709551616 := by unfold rank; rw [hx]; rfl
  unfold cmp3
  rw [e, if_neg (by omega), if_pos (by omega)]
theorem rank_nan_right {x y : Nat} (hx : isN x = false) (hy : isN y = true) : cmp3 (rank x) (rank y) = -1 := by
  have := rank_lt hx
  have e : rank y = 18446744073709551616 := by unfold rank; rw [hy]; rfl
  unfold cmp3
  rw [e, if_pos (by omega)]

/-- A word is its sign and its rung. -/
theorem word_parts {x : Nat} (h : x < 18446744073709551616) : x = (if ng x then 9223372036854775808 else 0) + rg x := by
  have e : x / 9223372036854775808 < 2 := by omega
  unfold ng rg
  have : x / 9223372036854775808 = 0 ∨ x / 9223372036854775808 = 1 := by omega
  rcases this with h1 | h1 <;> rw [h1] <;> simp <;> omega

/-- Two paces are the same just if their forms are. -/
theorem rank_canon {x y : Nat} (hx : x < 18446744073709551616) (hy : y < 18446744073709551616) : rank x = rank y ↔ canon x = canon y := by
  have px := word_parts hx
  have py := word_parts hy
  have n0 : isN 9221120237041090560 = true := by decide
  have lx := rg_lt x
  have ly := rg_lt y
  unfold canon
  cases h1 : isN x <;> cases h2 : isN y
  · simp
    unfold rank
    rw [h1, h2]
    cases h3 : ng x <;> cases h4 : ng y <;> rw [h3] at px <;> rw [h4] at py <;> simp at px py ⊢ <;> omega
  · simp
    have a := rank_lt h1
    have b : rank y = 18446744073709551616 := by unfold rank; rw [h2]; rfl
    constructor
    · intro h; omega
    · intro h; rw [h, n0] at h1; cases h1
  · simp
    have a := rank_lt h2
    have b : rank x = 18446744073709551616 := by unfold rank; rw [h1]; rfl
    constructor
    · intro h; omega
    · intro h; rw [← h, n0] at h2; cases h2
  · simp
    unfold rank; rw [h1, h2]; simp

theorem cmp3_zero {a b : Int} : cmp3 a b = 0 ↔ a = b := by
  unfold cmp3
  split
  · constructor
    · intro h; cases h
    · omega
  · split
    · constructor
      · intro h; cases h
      · omega
    · constructor <;> intros <;> omega
theorem cmp3_neg (a b : Int) : cmp3 b a = - cmp3 a b := by
  unfold cmp3
  split <;> split <;> (try split) <;> omega
theorem cmp3_cases (a b : Int) : cmp3 a b = -1 ∧ a < b ∨ cmp3 a b = 0 ∧ a = b ∨ cmp3 a b = 1 ∧ b < a := by
  unfold cmp3
  split
  · left; exact ⟨rfl, by assumption⟩
  · split
    · right; right; exact ⟨rfl, by assumption⟩
    · right; left; exact ⟨rfl, by omega⟩

theorem canon_canon (x : Nat) : canon (canon x) = canon x := by
  have n0 : isN 9221120237041090560 = true := by decide
  unfold canon
  cases h : isN x
  · simp [h]
  · simp [n0]
theorem isN_canon (x : Nat) : isN (canon x) = isN x := by
  have n0 : isN 9221120237041090560 = true := by decide
  unfold canon
  cases h : isN x
  · simp [h]
  · simp [n0]
theorem canon_lt {x : Nat} (h : x < 18446744073709551616) : canon x < 18446744073709551616 := by
  unfold canon; split <;> omega
theorem rank_canon_self {x : Nat} (h : x < 18446744073709551616) : rank (canon x) = rank x :=
  (rank_canon (canon_lt h) h).2 (canon_canon x)

/-- What a draw gives where an operation has no answer. -/
def nanw (t : Nat) : Nat := (t % 2) * 2 ^ 63 + 0x7ff0000000000000 + 1 + (t / 2) % (2 ^ 52 - 1)
theorem nanw_isN (t : Nat) : isN (nanw t) = true ∧ nanw t < 18446744073709551616 := by
  have h : (t / 2) % 4503599627370495 < 4503599627370495 := Nat.mod_lt _ (by decide)
  have h2 : t % 2 < 2 := Nat.mod_lt _ (by decide)
  unfold isN rg nanw
  have e1 : (2 : Nat) ^ 63 = 9223372036854775808 := by decide
  have e2 : (2 : Nat) ^ 52 - 1 = 4503599627370495 := by decide
  have e3 : (0x7ff0000000000000 : Nat) = 9218868437227405312 := by decide
  rw [e1, e2, e3]
  generalize (t / 2) % 4503599627370495 = a at *
  generalize t % 2 = b at *
  simp only [decide_eq_true_eq]
  omega

theorem div_nan {x : Nat} (h : isN x = true) : double.div x 4620693217682128896 = none := by
  unfold Format.div; rw [read_nan (isN_true h)]; rfl
theorem add_nan_right (x : Nat) {y : Nat} (h : isN y = true) : double.add x y = none := by
  unfold Format.add; rw [read_nan (isN_true h)]; cases double.read x <;> rfl

/-- The form of what is smoothed. -/
def smooth (x y : Nat) : Nat :=
  if isN x then canon y else
  match double.sub y x with
  | none => 9221120237041090560
  | some d => match double.div d 4620693217682128896 with
    | none => 9221120237041090560
    | some e => match double.add x e with
      | none => 9221120237041090560
      | some z => canon z
/-- z is what is smoothed of x and y: which NaN is free. -/
def Sm (x y z : Nat) : Prop := canon z = smooth x y ∧ z < 18446744073709551616

theorem sm_nan {x y : Nat} (h : isN x = true) (hy : y < 18446744073709551616) : Sm x y y := ⟨by unfold smooth; rw [h]; rfl, hy⟩
theorem canon_nan {x : Nat} (h : isN x = true) : canon x = 9221120237041090560 := by unfold canon; rw [h]; rfl
theorem sm_none {x y t : Nat} (hx : isN x = false) (h : double.sub y x = none) : Sm x y (nanw t) :=
  ⟨by unfold smooth; rw [hx, h, canon_nan (nanw_isN t).1]; rfl, (nanw_isN t).2⟩
theorem sm_none2 {x y d t : Nat} (hx : isN x = false) (h : double.sub y x = some d) (h2 : double.div d 4620693217682128896 = none) : Sm x y (nanw t) :=
  ⟨by unfold smooth; rw [hx, h]; simp only [h2]; rw [canon_nan (nanw_isN t).1]; rfl, (nanw_isN t).2⟩
theorem sm_none3 {x y d e t : Nat} (hx : isN x = false) (h : double.sub y x = some d) (h2 : double.div d 4620693217682128896 = some e) (h3 : double.add x e = none) : Sm x y (nanw t) :=
  ⟨by unfold smooth; rw [hx, h]; simp only [h2, h3]; rw [canon_nan (nanw_isN t).1]; rfl, (nanw_isN t).2⟩
theorem sm_some {x y d e z : Nat} (hx : isN x = false) (h : double.sub y x = some d) (h2 : double.div d 4620693217682128896 = some e) (h3 : double.add x e = some z) : Sm x y z :=
  ⟨by unfold smooth; rw [hx, h]; simp only [h2, h3]; rfl, double.add_lt h3⟩

/-- The world behind draws. -/
theorem isN_of_canon {x y : Nat} (h : canon x = canon y) : isN x = isN y := by rw [← isN_canon x, h, isN_canon]
end FltC
end Go.Proofs.Ythcemghamdmjmaa

namespace Go.Proofs.Ythcemghamdmjmaa
namespace PaceA
open Go.RowKit Go.Shelf
open FltR FltC

theorem hide {p : Prop} (h : p) : Hid p := h
theorem bcell {W w1 : World} (hb : Below W.heap.size W w1) : (∀ b o, b < W.heap.size → w1.cell? ⟨b, o, none⟩ = W.cell? ⟨b, o, none⟩) ∧ (∀ b o, b < W.heap.size → w1.frozen? ⟨b, o, none⟩ = W.frozen? ⟨b, o, none⟩) ∧ W.heap.size ≤ w1.heap.size :=
  ⟨fun b o h => hb.cell (p := ⟨b, o, none⟩) h, fun b o h => hb.frozen (p := ⟨b, o, none⟩) h, hb.size⟩

theorem fbits (x : Nat) (w : World) : (callFunc 157 #[.float .f64 x]).run Try.prog w = .ok (.value (.int .u64 (x : Int))) w := by
  rw [run_callFunc_extern Try.func157 (by kernel_rfl) (by kernel_rfl) (by kernel_rfl) (e := Extern.MathFloatBits.float64bits) (by kernel_rfl)]
  rfl
theorem ffrom (n : Nat) (w : World) : (callFunc 103 #[.int .u64 (n : Int)]).run Try.prog w = .ok (.value (.float .f64 n)) w := by
  rw [run_callFunc_extern Try.func103 (by kernel_rfl) (by kernel_rfl) (by kernel_rfl) (e := Extern.MathFloatBits.float64frombits) (by kernel_rfl)]
  rfl

set_option maxHeartbeats 400000 in
theorem isnan_any (x : Nat) (w : World) : Calls Try.prog 236 #[.float .f64 x] w fun e w' => e = .returned (.bool (isN x)) ∧ w = w' := by
  have n := neq_self x
  go_enter Try.func236, Try.ntmps236
  go_wp2
  all_goals (go_ret; exact ⟨rfl, rfl⟩)

set_option maxHeartbeats 400000 in
theorem isnan_t (x : Nat) (w : World) (h : isN x = true) : Calls Try.prog 236 #[.float .f64 x] w fun e w' => e = .returned (.bool true) ∧ w = w' := h ▸ isnan_any x w
set_option maxHeartbeats 400000 in
theorem isnan_f (x : Nat) (w : World) (h : isN x = false) : Calls Try.prog 236 #[.float .f64 x] w fun e w' => e = .returned (.bool false) ∧ w = w' := h ▸ isnan_any x w

set_option maxHeartbeats 400000 in
/-- pace.Bits. -/
theorem bits_any (x : Nat) (w : World) : Calls Try.prog 191 #[.float .f64 x] w fun e w' => e = .returned (.int .u64 (canon x : Int)) ∧ w = w' := by
  have hb := fbits x
  unfold canon
  cases h : isN x
  · have C := hide (fun W => isnan_f x W h)
    clear h
    go_enter Try.func191, Try.ntmps191
    go_wp2_with (go_at_call 236; refine (C.out _).mono ?_; rintro e w' ⟨rfl, rfl⟩)
    go_ret
    exact ⟨rfl, rfl⟩
  · have C := hide (fun W => isnan_t x W h)
    clear h
    go_enter Try.func191, Try.ntmps191
    go_wp2_with (go_at_call 236; refine (C.out _).mono ?_; rintro e w' ⟨rfl, rfl⟩)
    go_ret
    exact ⟨rfl, rfl⟩

set_option maxHeartbeats 400000 in
/-- The document's Bits. -/
theorem rbits_any (x : Nat) (w : World) : Calls Try.prog 120 #[.float .f64 x] w fun e w' => e = .returned (.int .u64 (canon x : Int)) ∧ w = w' := by
  have hb := fbits x
  unfold canon
  have n := neq_self x
  cases h : isN x
  · rw [h] at n
    clear h
    go_enter Try.func120, Try.ntmps120
    go_wp2
    go_ret
    exact ⟨rfl, rfl⟩
  · rw [h] at n
    clear h
    go_enter Try.func120, Try.ntmps120
    go_wp2
    go_ret
    exact ⟨rfl, rfl⟩

set_option maxHeartbeats 400000 in
/-- pace.Of: bits that are a form. -/
theorem pof_ok (n : Nat) (w : World) (h : canon n = n) : Calls Try.prog 212 #[.int .u64 (n : Int)] w fun e w' => e = .returned (.tuple #[.float .f64 n, .int .i64 0]) ∧ w = w' := by
  have hf := ffrom n
  have C := bits_any n
  rw [h] at C
  have C := hide C
  have t0 : ((n : Int) != (n : Int)) = false := by simp
  clear h
  go_enter Try.func212, Try.ntmps212
  go_wp2_with (go_at_call 191; refine (C.out _).mono ?_; rintro e w' ⟨rfl, rfl⟩)
  go_ret2
  exact ⟨rfl, rfl⟩
set_option maxHeartbeats 400000 in
/-- pace.Of: bits that are none. -/
theorem pof_no (n : Nat) (w : World) (h : canon n ≠ n) : Calls Try.prog 212 #[.int .u64 (n : Int)] w fun e w' => e = .returned (.tuple #[.float .f64 0, .int .i64 5]) ∧ w = w' := by
  have hf := ffrom n
  have C := hide (fun W => bits_any n W)
  have t0 : ((canon n : Int) != (n : Int)) = true := by simp; omega
  clear h
  go_enter Try.func212, Try.ntmps212
  go_wp2_with (go_at_call 191; refine (C.out _).mono ?_; rintro e w' ⟨rfl, rfl⟩)
  go_ret2
  exact ⟨rfl, rfl⟩

theorem canon_self (n : Nat) : canon n = n ↔ (isN n = false ∨ n = 9221120237041090560) := by
  unfold canon
  cases isN n <;> simp
  exact eq_comm

set_option maxHeartbeats 400000 in
theorem rof_nan (w : World) : Calls Try.prog 199 #[.int .u64 9221120237041090560] w fun e w' => e = .returned (.tuple #[.float .f64 9221120237041090560, .int .i64 0]) ∧ w = w' := by
  have hf : ∀ w : World, (callFunc 103 #[.int .u64 9221120237041090560]).run Try.prog w = .ok (.value (.float .f64 9221120237041090560)) w := ffrom 9221120237041090560
  have n0 := neq_self 9221120237041090560
  have k : isN 9221120237041090560 = true := by decide
  rw [k] at n0
  clear k
  go_enter Try.func199, Try.ntmps199
  go_wp2
  go_ret2
  exact ⟨rfl, rfl⟩
set_option maxHeartbeats 400000 in
/-- The document's Of: bits that are a form. -/
theorem rof_ok (n : Nat) (w : World) (h : canon n = n) : Calls Try.prog 199 #[.int .u64 (n : Int)] w fun e w' => e = .returned (.tuple #[.float .f64 n, .int .i64 0]) ∧ w = w' := by
  have hf := ffrom n
  have n0 := neq_self n
  rcases (canon_self n).1 h with k | k
  · rw [k] at n0
    clear h k
    go_enter Try.func199, Try.ntmps199
    go_wp2
    go_ret2
    exact ⟨rfl, rfl⟩
  · subst k
    exact rof_nan w
set_option maxHeartbeats 400000 in
/-- The document's Of: bits that are none. -/
theorem rof_no (n : Nat) (w : World) (h : canon n ≠ n) : Calls Try.prog 199 #[.int .u64 (n : Int)] w fun e w' => e = .returned (.tuple #[.float .f64 0, .int .i64 5]) ∧ w = w' := by
  have hf := ffrom n
  have n0 := neq_self n
  have k : isN n = true := by
    cases k : isN n
    · exact absurd ((canon_self n).2 (.inl k)) h
    · rfl
  rw [k] at n0
  have t0 : ((n : Int) != 9221120237041090560) = true := by
    simp
    intro h2
    exact h ((canon_self n).2 (.inr (by omega)))
  clear h k
  go_enter Try.func199, Try.ntmps199
  go_wp2
  go_ret2
  exact ⟨rfl, rfl⟩

/-! ### Compare -/
end PaceA
end Go.Proofs.Ythcemghamdmjmaa

