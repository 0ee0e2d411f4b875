/-
  The form of a float64, the order of paces as numbers, and what a mean that forgets is. (Pure arithmetic.)
-/
import Derived.Test.YtplinpbmncccoaaFltR
import Derived.Laws.FloatArith
namespace Go.Proofs.Ytplinpbmncccoaa
namespace FltC
open Ieee FltR

/-- Is a word a NaN's? -/
def isN (x : Nat) : Bool := decide (9218868437227405312 < rg x)
/-- Its form. -/
def canon (x : Nat) : Nat := if isN x then 9221120237041090560 else x
/-- Its place in the order of paces. -/
def rank (x : Nat) : Int := if isN x then 18446744073709551616 else if ng x then -(rg x : Int) - 1 else rg x
/-- How two numbers stand. -/
def cmp3 (a b : Int) : Int := if a < b then -1 else if b < a then 1 else 0

theorem isN_true {x : Nat} (h : isN x = true) : 9218868437227405312 < rg x := by simpa [isN] using h
theorem isN_false {x : Nat} (h : isN x = false) : rg x ≤ 9218868437227405312 := by simpa [isN] using h

theorem neq_self (x : Nat) : (Go.FloatKind.f64.format.order x x != some .eq) = isN x := by
  show (double.order x x != some .eq) = isN x
  cases h : isN x with
  | true => rw [ord_nan_left x (isN_true h)]; rfl
  | false => rw [ord_key (isN_false h) (isN_false h), Int.compare_eq_eq.2 rfl]; rfl
theorem eql_self (x : Nat) : (Go.FloatKind.f64.format.order x x == some .eq) = !isN x := by
  rw [← neq_self]; simp [bne]

theorem ord_some {x y : Nat} (hx : isN x = false) (hy : isN y = false) : Go.FloatKind.f64.format.order x y = some (compare (key x) (key y)) :=
  ord_key (isN_false hx) (isN_false hy)
theorem ord_none {x y : Nat} (h : isN x = true ∨ isN y = true) : Go.FloatKind.f64.format.order x y = none := by
  rcases h with h | h
  · exact ord_nan_left y (isN_true h)
  · exact ord_nan_right x (isN_true h)

theorem key_eq (x : Nat) : key x = if ng x then -(rg x : Int) else rg x := rfl

/-- The three ways in which two numbers stand. -/
theorem ord_ways {x y : Nat} (hx : isN x = false) (hy : isN y = false) :
    (Go.FloatKind.f64.format.order x y = some .lt ∧ Go.FloatKind.f64.format.order y x = some .gt ∧ key x < key y ∧ cmp3 (rank x) (rank y) = -1) ∨
    (Go.FloatKind.f64.format.order x y = some .gt ∧ Go.FloatKind.f64.format.order y x = some .lt ∧ key y < key x ∧ cmp3 (rank x) (rank y) = 1) ∨
    (Go.FloatKind.f64.format.order x y = some .eq ∧ Go.FloatKind.f64.format.order y x = some .eq ∧ key x = key y ∧ cmp3 (rank x) (rank y) = (if ng y then 1 else 0) - (if ng x then 1 else 0)) := by
  rw [ord_some hx hy, ord_some hy hx]
  have kx := key_eq x
  have ky := key_eq y
  rcases Int.lt_trichotomy (key x) (key y) with h | h | h
  · refine .inl ⟨by rw [Int.compare_eq_lt.2 h], by rw [Int.compare_eq_gt.2 h], h, ?_⟩
    unfold cmp3 rank
    rw [hx, hy]
    cases hnx : ng x <;> cases hny : ng y <;> rw [hnx] at kx <;> rw [hny] at ky <;> simp at kx ky ⊢ <;> omega
  · refine .inr (.inr ⟨by rw [Int.compare_eq_eq.2 h], by rw [Int.compare_eq_eq.2 h.symm], h, ?_⟩)
    unfold cmp3 rank
    rw [hx, hy]
    cases hnx : ng x <;> cases hny : ng y <;> rw [hnx] at kx <;> rw [hny] at ky <;> simp at kx ky ⊢ <;> split <;> (try split) <;> omega
  · refine .inr (.inl ⟨by rw [Int.compare_eq_gt.2 h], by rw [Int.compare_eq_lt.2 h], h, ?_⟩)
    unfold cmp3 rank
    rw [hx, hy]
    cases hnx : ng x <;> cases hny : ng y <;> rw [hnx] at kx <;> rw [hny] at ky <;> simp at kx ky ⊢ <;> split <;> (try split) <;> omega

theorem rank_nan_cmp {x y : Nat} (hx : isN x = true) (hy : isN y = true) : cmp3 (rank x) (rank y) = 0 := by
  unfold rank cmp3; rw [hx, hy]; rfl
theorem rank_lt {x : Nat} (hx : isN x = false) : rank x < 18446744073709551616 ∧ -18446744073709551616 < rank x := by
  have := rg_lt x
  unfold rank; rw [hx]
  cases ng x <;> simp <;> omega
theorem rank_nan_left {x y : Nat} (hx : isN x = true) (hy : isN y = false) : cmp3 (rank x) (rank y) = 1 := by
  have := rank_lt hy
  have e : rank x = 18446744073709551616 := by unfold rank; rw [hx]; rfl
  unfold cmp3
  rw [e, if_neg (by omega), if_pos (by omega)]
theorem rank_nan_right {x y : Nat} (hx : isN x = false) (hy : isN y = true) : cmp3 (rank x) (rank y) = -1 := by
  have := rank_lt hx
  have e : rank y = 18446744073709551616 := by unfold rank; rw [hy]; rfl
  unfold cmp3
  rw [e, if_pos (by omega)]

/-- A word is its sign and its rung. -/
theorem word_parts {x : Nat} (h : x < 18446744073709551616) : x = (if ng x then 9223372036854775808 else 0) + rg x := by
  have e : x / 9223372036854775808 < 2 := by omega
  unfold ng rg
  have : x / 9223372036854775808 = 0 ∨ x / 9223372036854775808 = 1 := by omega
  rcases this with h1 | h1 <;> rw [h1] <;> simp <;> omega

/-- Two paces are the same just if their forms are. -/
theorem rank_canon {x y : Nat} (hx : x < 18446744073709551616) (hy : y < 18446744073709551616) : rank x = rank y ↔ canon x = canon y := by
  have px := word_parts hx
  have py := word_parts hy
  have n0 : isN 9221120237041090560 = true := by decide
  have lx := rg_lt x
  have ly := rg_lt y
  unfold canon
  cases h1 : isN x <;> cases h2 : isN y
  · simp
    unfold rank
    rw [h1, h2]
    cases h3 : ng x <;> cases h4 : ng y <;> rw [h3] at px <;> rw [h4] at py <;> simp at px py ⊢ <;> omega
  · simp
    have a := rank_lt h1
    have b : rank y = 18446744073709551616 := by unfold rank; rw [h2]; rfl
    constructor
    · intro h; omega
    · intro h; rw [h, n0] at h1; cases h1
  · simp
    have a := rank_lt h2
    have b : rank x = 18446744073709551616 := by unfold rank; rw [h1]; rfl
    constructor
    · intro h; omega
    · intro h; rw [← h, n0] at h2; cases h2
  · simp
    unfold rank; rw [h1, h2]; simp

theorem cmp3_zero {a b : Int} : cmp3 a b = 0 ↔ a = b := by
  unfold cmp3
  split
  · constructor
    · intro h; cases h
    · omega
  · split
    · constructor
      · intro h; cases h
      · omega
    · constructor <;> intros <;> omega
theorem cmp3_neg (a b : Int) : cmp3 b a = - cmp3 a b := by
  unfold cmp3
  split <;> split <;> (try split) <;> omega
theorem cmp3_cases (a b : Int) : cmp3 a b = -1 ∧ a < b ∨ cmp3 a b = 0 ∧ a = b ∨ cmp3 a b = 1 ∧ b < a := by
  unfold cmp3
  split
  · left; exact ⟨rfl, by assumption⟩
  · split
    · right; right; exact ⟨rfl, by assumption⟩
    · right; left; exact ⟨rfl, by omega⟩

theorem canon_canon (x : Nat) : canon (canon x) = canon x := by
  have n0 : isN 9221120237041090560 = true := by decide
  unfold canon
  cases h : isN x
  · simp [h]
  · simp [n0]
theorem isN_canon (x : Nat) : isN (canon x) = isN x := by
  have n0 : isN 9221120237041090560 = true := by decide
  unfold canon
  cases h : isN x
  · simp [h]
  · simp [n0]
theorem canon_lt {x : Nat} (h : x < 18446744073709551616) : canon x < 18446744073709551616 := by
  unfold canon; split <;> omega
theorem rank_canon_self {x : Nat} (h : x < 18446744073709551616) : rank (canon x) = rank x :=
  (rank_canon (canon_lt h) h).2 (canon_canon x)

/-- What a draw gives where an operation has no answer. -/
def nanw (t : Nat) : Nat := (t % 2) * 2 ^ 63 + 0x7ff0000000000000 + 1 + (t / 2) % (2 ^ 52 - 1)
theorem nanw_isN (t : Nat) : isN (nanw t) = true ∧ nanw t < 18446744073709551616 := by
  have h : (t / 2) % 4503599627370495 < 4503599627370495 := Nat.mod_lt _ (by decide)
  have h2 : t % 2 < 2 := Nat.mod_lt _ (by decide)
  unfold isN rg nanw
  have e1 : (2 : Nat) ^ 63 = 9223372036854775808 := by decide
  have e2 : (2 : Nat) ^ 52 - 1 = 4503599627370495 := by decide
  have e3 : (0x7ff0000000000000 : Nat) = 9218868437227405312 := by decide
  rw [e1, e2, e3]
  generalize (t / 2) % 4503599627370495 = a at *
  generalize t % 2 = b at *
  simp only [decide_eq_true_eq]
  omega

theorem div_nan {x : Nat} (h : isN x = true) : double.div x 4620693217682128896 = none := by
  unfold Format.div; rw [read_nan (isN_true h)]; rfl
theorem add_nan_right (x : Nat) {y : Nat} (h : isN y = true) : double.add x y = none := by
  unfold Format.add; rw [read_nan (isN_true h)]; cases double.read x <;> rfl

/-- The form of what is smoothed. -/
def smooth (x y : Nat) : Nat :=
  if isN x then canon y else
  match double.sub y x with
  | none => 9221120237041090560
  | some d => match double.div d 4620693217682128896 with
    | none => 9221120237041090560
    | some e => match double.add x e with
      | none => 9221120237041090560
      | some z => canon z
/-- z is what is smoothed of x and y: which NaN is free. -/
def Sm (x y z : Nat) : Prop := canon z = smooth x y ∧ z < 18446744073709551616

theorem sm_nan {x y : Nat} (h : isN x = true) (hy : y < 18446744073709551616) : Sm x y y := ⟨by unfold smooth; rw [h]; rfl, hy⟩
theorem canon_nan {x : Nat} (h : isN x = true) : canon x = 9221120237041090560 := by unfold canon; rw [h]; rfl
theorem sm_none {x y t : Nat} (hx : isN x = false) (h : double.sub y x = none) : Sm x y (nanw t) :=
  ⟨by unfold smooth; rw [hx, h, canon_nan (nanw_isN t).1]; rfl, (nanw_isN t).2⟩
theorem sm_none2 {x y d t : Nat} (hx : isN x = false) (h : double.sub y x = some d) (h2 : double.div d 4620693217682128896 = none) : Sm x y (nanw t) :=
  ⟨by unfold smooth; rw [hx, h]; simp only [h2]; rw [canon_nan (nanw_isN t).1]; rfl, (nanw_isN t).2⟩
theorem sm_none3 {x y d e t : Nat} (hx : isN x = false) (h : double.sub y x = some d) (h2 : double.div d 4620693217682128896 = some e) (h3 : double.add x e = none) : Sm x y (nanw t) :=
  ⟨by unfold smooth; rw [hx, h]; simp only [h2, h3]; rw [canon_nan (nanw_isN t).1]; rfl, (nanw_isN t).2⟩
theorem sm_some {x y d e z : Nat} (hx : isN x = false) (h : double.sub y x = some d) (h2 : double.div d 4620693217682128896 = some e) (h3 : double.add x e = some z) : Sm x y z :=
  ⟨by unfold smooth; rw [hx, h]; simp only [h2, h3]; rfl, double.add_lt h3⟩

/-- The world behind draws. -/
theorem isN_of_canon {x y : Nat} (h : canon x = canon y) : isN x = isN y := by rw [← isN_canon x, h, isN_canon]
end FltC
end Go.Proofs.Ytplinpbmncccoaa
