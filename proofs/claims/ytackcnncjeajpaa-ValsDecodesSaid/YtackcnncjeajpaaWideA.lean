/-
  What the words of package wide do: adding a word at a place with its carry, products of a wide and an int, comparing.
-/
import Derived.Test.YtackcnncjeajpaaProg
import Derived.WalkKit
import Derived.WalkSpells
import Derived.WalkLawsBesides
import Derived.BigQuiet
import Derived.BigRegion
import Derived.RegionTactic
import Derived.ChangeAlike
import Derived.Deep.QuietTactic
import Derived.StillTailTactics
import Derived.Deep.RegionHeld3
import Derived.Deep.DeepCutAuto
import Derived.Shelf.Spec.BitsCarry
namespace Go.Proofs.Ytackcnncjeajpaa
open Go.RowKit Go.Shelf

namespace WideA

/-- Old cells and marks read as before. -/
theorem bcell {W w1 : World} (hb : Below W.heap.size W w1) : (∀ b o, b < W.heap.size → w1.cell? ⟨b, o, none⟩ = W.cell? ⟨b, o, none⟩) ∧ (∀ b o, b < W.heap.size → w1.frozen? ⟨b, o, none⟩ = W.frozen? ⟨b, o, none⟩) ∧ W.heap.size ≤ w1.heap.size :=
  ⟨fun b o h => hb.cell (p := ⟨b, o, none⟩) h, fun b o h => hb.frozen (p := ⟨b, o, none⟩) h, hb.size⟩

/-- A fact that the walk does not take for a rule. -/
theorem hide {p : Prop} (h : p) : Hid p := h

theorem add64 (x y c : Int) (hx : 0 ≤ x) (hx' : x < 18446744073709551616) (hy : 0 ≤ y) (hy' : y < 18446744073709551616) (hc0 : 0 ≤ c) (hc : c ≤ 1) (w : World) :
    (callFunc 190 #[.int .u64 x, .int .u64 y, .int .u64 c]).run Try.prog w =
    .ok (.value (.tuple #[.int .u64 ((x + y + c) % 18446744073709551616), .int .u64 ((x + y + c) / 18446744073709551616)])) w := by
  obtain ⟨x, rfl⟩ := Int.eq_ofNat_of_zero_le hx
  obtain ⟨y, rfl⟩ := Int.eq_ofNat_of_zero_le hy
  obtain ⟨c, rfl⟩ := Int.eq_ofNat_of_zero_le hc0
  rw [run_callFunc_extern Try.func190 (by kernel_rfl) (by kernel_rfl) (by kernel_rfl) (e := add64Entry) (by kernel_rfl), run_add64 x y c (by omega) (by omega) (by omega) (by omega)]
  rfl


theorem setCell_self {w : World} {a : Addr} {v : Value} (h : w.cell? a = some v) : w.setCell a v = w := by
  have e : w.heap.modify a.block (fun | .cells c elem frozen => .cells (if a.spot.isSome then c else c.setIfInBounds a.off v) elem frozen | o => o) = w.heap := by
    apply Array.ext (by simp)
    intro i h1 h2
    rw [Array.getElem_modify]
    split
    · rename_i hi
      subst hi
      unfold World.cell? at h
      rw [Array.getElem?_eq_getElem h2] at h
      split at h
      · rename_i c t fr heq
        simp only [Option.some.injEq] at heq
        rw [heq]
        split at h
        · cases h
        · rename_i hs
          show Obj.cells (if a.spot.isSome = true then c else c.setIfInBounds a.off v) t fr = _
          rw [if_neg hs]
          congr 1
          apply Array.ext (by simp)
          intro j j1 j2
          by_cases hj : a.off = j
          · subst hj
            rw [Array.getElem?_eq_getElem j2] at h
            simp at h
            simp [h]
          · exact Array.getElem_setIfInBounds_ne (by simpa using j2) hj
      · cases h
    · rfl
  unfold World.setCell
  exact congrArg (fun hp : Array Obj => ({ w with heap := hp } : World)) e

/-- What is handed back of a number that may need more than 128 bits: c is what stands above. -/
def okN (c x : Int) : Int := if c = 0 then x else 0
def errN (c : Int) : Int := if c = 0 then 0 else 7
theorem okN_zero (x : Int) : okN 0 x = x := by simp [okN]
theorem okN_other {c : Int} (h : c ≠ 0) (x : Int) : okN c x = 0 := by simp [okN, h]
theorem errN_zero : errN 0 = 0 := by simp [errN]
theorem errN_other {c : Int} (h : c ≠ 0) : errN c = 7 := by simp [errN, h]

/-- The two results of a sum or product T: a wide and an error. -/
def wRes (T : Int) : Value := .tuple #[.agg #[.int .u64 (okN (T / 340282366920938463463374607431768211456) (T / 18446744073709551616 % 18446744073709551616)), .int .u64 (okN (T / 340282366920938463463374607431768211456) (T % 18446744073709551616))], .int .i64 (errN (T / 340282366920938463463374607431768211456))]

set_option maxHeartbeats 400000 in
theorem wide_any (a b c : Int) (w : World) :
    Calls Try.prog 153 #[.agg #[.int .u64 a, .int .u64 b, .int .u64 c]] w fun e w' =>
      e = .returned (.tuple #[.agg #[.int .u64 (okN c b), .int .u64 (okN c a)], .int .i64 (errN c)]) ∧ Below w.heap.size w w' := by
  by_cases hc : c = 0
  · subst hc
    rw [okN_zero, okN_zero, errN_zero]
    go_enter Try.func153, Try.ntmps153
    go_wp2
    exact bodyPost_ret (v := .tuple #[.agg #[.int .u64 b, .int .u64 a], .int .i64 0]) (by simp [results, Try.results153, go_sem]) rfl ⟨rfl, ((Below.refl _ _).alloc (Nat.le_refl _) _).alloc (by simp) _⟩
  · rw [okN_other hc, okN_other hc, errN_other hc]
    have h : (c != 0) = true := by simp [hc]
    clear hc
    go_enter Try.func153, Try.ntmps153
    go_wp2
    exact bodyPost_ret (v := .tuple #[.agg #[.int .u64 0, .int .u64 0], .int .i64 7]) (by simp [results, Try.results153, go_sem]) rfl ⟨rfl, ((Below.refl _ _).alloc (Nat.le_refl _) _).alloc (by simp) _⟩

/-- What the three cells of a number at block b hold. -/
def Words (w : World) (b : Nat) (x0 x1 x2 : Int) : Prop :=
  w.cell? ⟨b, 0, none⟩ = some (.int .u64 x0) ∧ w.cell? ⟨b, 1, none⟩ = some (.int .u64 x1) ∧ w.cell? ⟨b, 2, none⟩ = some (.int .u64 x2) ∧
  w.frozen? ⟨b, 0, none⟩ = false ∧ w.frozen? ⟨b, 1, none⟩ = false ∧ w.frozen? ⟨b, 2, none⟩ = false

/-- The world with these three numbers there. -/
def putWords (w : World) (b : Nat) (y0 y1 y2 : Int) : World :=
  ((w.setCell ⟨b, 0, none⟩ (.int .u64 y0)).setCell ⟨b, 1, none⟩ (.int .u64 y1)).setCell ⟨b, 2, none⟩ (.int .u64 y2)

theorem cell_other (w : World) (b i j : Nat) (v : Value) (h : j ≠ i) : (w.setCell ⟨b, i, none⟩ v).cell? ⟨b, j, none⟩ = w.cell? ⟨b, j, none⟩ := by
  have _h := h
  simp [go_sem]

set_option maxHeartbeats 400000 in
theorem add0 (b : Nat) (x0 x1 x2 x y0 y1 y2 : Int) (w : World) (hw : Words w b x0 x1 x2)
    (x0l : 0 ≤ x0) (x0u : x0 < 18446744073709551616) (x1l : 0 ≤ x1) (x1u : x1 < 18446744073709551616) (x2l : 0 ≤ x2) (x2u : x2 < 18446744073709551616) (xl : 0 ≤ x) (xu : x < 18446744073709551616)
    (e0 : y0 = (x0 + x) % 18446744073709551616) (e1 : y1 = (x1 + (x0 + x) / 18446744073709551616) % 18446744073709551616) (e2 : y2 = (x2 + (x1 + (x0 + x) / 18446744073709551616) / 18446744073709551616) % 18446744073709551616) :
    Calls Try.prog 152 #[.pointer (some ⟨b, 0, none⟩), .int .i64 0, .int .u64 x] w fun e w' =>
      e = .returned (.tuple #[]) ∧ ∃ n, w' = (putWords w b y0 y1 y2).drewN n := by
  obtain ⟨h0, h1, h2, f0, f1, f2⟩ := hw
  have a1 := add64 x0 x 0 x0l x0u xl xu (by omega) (by omega)
  rw [show x0 + x + 0 = x0 + x by omega, ← e0] at a1
  by_cases hc : (x0 + x) / 18446744073709551616 = 0
  · have E1 : y1 = x1 := by omega
    have E2 : y2 = x2 := by omega
    subst E1; subst E2
    rw [hc] at a1
    have fin : ∃ n, w.setCell ⟨b, 0, none⟩ (.int .u64 y0) = (putWords w b y0 y1 y2).drewN n := by
      refine ⟨0, ?_⟩
      unfold putWords
      have s1 := setCell_self (w := w.setCell ⟨b, 0, none⟩ (.int .u64 y0)) (a := ⟨b, 1, none⟩) (v := .int .u64 y1) (by rw [cell_other _ _ _ _ _ (by decide)]; exact h1)
      have s2 := setCell_self (w := w.setCell ⟨b, 0, none⟩ (.int .u64 y0)) (a := ⟨b, 2, none⟩) (v := .int .u64 y2) (by rw [cell_other _ _ _ _ _ (by decide)]; exact h2)
      rw [s1, s2]
      rfl
    have FIN := hide fin
    clear fin e0 e1 e2 hc
    go_enter Try.func152, Try.ntmps152
    go_wp2
    refine wp_loop_rounds 1 ?_; rw [rounds_succ]
    go_wp2
    go_end0
    exact ⟨rfl, FIN.out⟩
  · have hc1 : (x0 + x) / 18446744073709551616 = 1 := by omega
    rw [hc1] at a1 e1 e2
    have a2 := add64 x1 0 1 x1l x1u (by omega) (by omega) (by omega) (by omega)
    rw [show x1 + 0 + 1 = x1 + 1 by omega, ← e1] at a2
    by_cases hd : (x1 + 1) / 18446744073709551616 = 0
    · have E2 : y2 = x2 := by omega
      subst E2
      rw [hd] at a2
      have fin : ∃ n, ((w.setCell ⟨b, 0, none⟩ (.int .u64 y0)).setCell ⟨b, 1, none⟩ (.int .u64 y1)).drew = (putWords w b y0 y1 y2).drewN n := by
        refine ⟨1, ?_⟩
        unfold putWords
        have s2 := setCell_self (w := (w.setCell ⟨b, 0, none⟩ (.int .u64 y0)).setCell ⟨b, 1, none⟩ (.int .u64 y1)) (a := ⟨b, 2, none⟩) (v := .int .u64 y2) (by rw [cell_other _ _ _ _ _ (by decide), cell_other _ _ _ _ _ (by decide)]; exact h2)
        rw [s2]
        rfl
      have FIN := hide fin
      clear fin e0 e1 e2 hc hc1 hd
      go_enter Try.func152, Try.ntmps152
      go_wp2
      refine wp_loop_rounds 2 ?_; rw [rounds_succ]
      go_wp2
      go_region
      go_wp2
      rw [rounds_succ]
      go_wp2
      go_end0
      exact ⟨rfl, FIN.out⟩
    · have hd1 : (x1 + 1) / 18446744073709551616 = 1 := by omega
      rw [hd1] at a2 e2
      have a3 := add64 x2 0 1 x2l x2u (by omega) (by omega) (by omega) (by omega)
      rw [show x2 + 0 + 1 = x2 + 1 by omega, ← e2] at a3
      have fin : ∃ n, (((w.setCell ⟨b, 0, none⟩ (.int .u64 y0)).setCell ⟨b, 1, none⟩ (.int .u64 y1)).setCell ⟨b, 2, none⟩ (.int .u64 y2)).drew.drew = (putWords w b y0 y1 y2).drewN n := ⟨2, rfl⟩
      have FIN := hide fin
      by_cases he : (x2 + 1) / 18446744073709551616 = 0
      all_goals
        have hdec : (((x2 + 1) / 18446744073709551616 != 0) = true) ∨ (((x2 + 1) / 18446744073709551616 != 0) = false) := by cases ((x2 + 1) / 18446744073709551616 != 0) <;> simp
        rcases hdec with hdec | hdec
        all_goals
          clear fin e0 e1 e2 hc hc1 hd hd1 he
          go_enter Try.func152, Try.ntmps152
          go_wp2
          refine wp_loop_rounds 3 ?_; rw [rounds_succ]
          go_wp2
          go_region
          go_wp2
          rw [rounds_succ]
          go_wp2
          go_region
          go_wp2
          rw [rounds_succ]
          go_wp2
          go_end0
          exact ⟨rfl, FIN.out⟩

set_option maxHeartbeats 400000 in
theorem add1 (b : Nat) (x0 x1 x2 x y1 y2 : Int) (w : World) (hw : Words w b x0 x1 x2)
    (x1l : 0 ≤ x1) (x1u : x1 < 18446744073709551616) (x2l : 0 ≤ x2) (x2u : x2 < 18446744073709551616) (xl : 0 ≤ x) (xu : x < 18446744073709551616)
    (e1 : y1 = (x1 + x) % 18446744073709551616) (e2 : y2 = (x2 + (x1 + x) / 18446744073709551616) % 18446744073709551616) :
    Calls Try.prog 152 #[.pointer (some ⟨b, 0, none⟩), .int .i64 1, .int .u64 x] w fun e w' =>
      e = .returned (.tuple #[]) ∧ ∃ n, w' = (putWords w b x0 y1 y2).drewN n := by
  obtain ⟨h0, h1, h2, f0, f1, f2⟩ := hw
  have a1 := add64 x1 x 0 x1l x1u xl xu (by omega) (by omega)
  rw [show x1 + x + 0 = x1 + x by omega, ← e1] at a1
  have s0 := setCell_self h0
  by_cases hc : (x1 + x) / 18446744073709551616 = 0
  · have E2 : y2 = x2 := by omega
    subst E2
    rw [hc] at a1
    have fin : ∃ n, w.setCell ⟨b, 1, none⟩ (.int .u64 y1) = (putWords w b x0 y1 y2).drewN n := by
      refine ⟨0, ?_⟩
      unfold putWords
      have s2 := setCell_self (w := w.setCell ⟨b, 1, none⟩ (.int .u64 y1)) (a := ⟨b, 2, none⟩) (v := .int .u64 y2) (by rw [cell_other _ _ _ _ _ (by decide)]; exact h2)
      rw [s0, s2]
      rfl
    have FIN := hide fin
    clear fin e1 e2 hc s0
    go_enter Try.func152, Try.ntmps152
    go_wp2
    refine wp_loop_rounds 1 ?_; rw [rounds_succ]
    go_wp2
    go_end0
    exact ⟨rfl, FIN.out⟩
  · have hc1 : (x1 + x) / 18446744073709551616 = 1 := by omega
    rw [hc1] at a1 e2
    have a3 := add64 x2 0 1 x2l x2u (by omega) (by omega) (by omega) (by omega)
    rw [show x2 + 0 + 1 = x2 + 1 by omega, ← e2] at a3
    have fin : ∃ n, ((w.setCell ⟨b, 1, none⟩ (.int .u64 y1)).setCell ⟨b, 2, none⟩ (.int .u64 y2)).drew = (putWords w b x0 y1 y2).drewN n := by
      refine ⟨1, ?_⟩
      unfold putWords
      rw [s0]
      rfl
    have FIN := hide fin
    by_cases he : (x2 + 1) / 18446744073709551616 = 0
    all_goals
      have hdec : (((x2 + 1) / 18446744073709551616 != 0) = true) ∨ (((x2 + 1) / 18446744073709551616 != 0) = false) := by cases ((x2 + 1) / 18446744073709551616 != 0) <;> simp
      rcases hdec with hdec | hdec
      all_goals
        clear fin e1 e2 hc hc1 he s0
        go_enter Try.func152, Try.ntmps152
        go_wp2
        refine wp_loop_rounds 2 ?_; rw [rounds_succ]
        go_wp2
        go_region
        go_wp2
        rw [rounds_succ]
        go_wp2
        go_end0
        exact ⟨rfl, FIN.out⟩

set_option maxHeartbeats 400000 in
theorem add2 (b : Nat) (x0 x1 x2 x y2 : Int) (w : World) (hw : Words w b x0 x1 x2)
    (x2l : 0 ≤ x2) (x2u : x2 < 18446744073709551616) (xl : 0 ≤ x) (xu : x < 18446744073709551616)
    (e2 : y2 = x2 + x) (h2u : y2 < 18446744073709551616) :
    Calls Try.prog 152 #[.pointer (some ⟨b, 0, none⟩), .int .i64 2, .int .u64 x] w fun e w' =>
      e = .returned (.tuple #[]) ∧ ∃ n, w' = (putWords w b x0 x1 y2).drewN n := by
  obtain ⟨h0, h1, h2, f0, f1, f2⟩ := hw
  have a1 := add64 x2 x 0 x2l x2u xl xu (by omega) (by omega)
  rw [show x2 + x + 0 = y2 by omega, show y2 % 18446744073709551616 = y2 by omega, show y2 / 18446744073709551616 = 0 by omega] at a1
  have s0 := setCell_self h0
  have s1 := setCell_self h1
  have fin : ∃ n, w.setCell ⟨b, 2, none⟩ (.int .u64 y2) = (putWords w b x0 x1 y2).drewN n := by
    refine ⟨0, ?_⟩
    unfold putWords
    rw [s0, s1]
    rfl
  have FIN := hide fin
  clear fin e2 s0 s1
  go_enter Try.func152, Try.ntmps152
  go_wp2
  refine wp_loop_rounds 1 ?_; rw [rounds_succ]
  go_wp2
  go_end0
  exact ⟨rfl, FIN.out⟩

/-- Words after a new block with three numbers. -/
theorem words_new (w : World) (b n : Nat) (hb : b = w.heap.size) (x0 x1 x2 : Int) (T : TypeId) : Words ((w.alloc (.cells #[.int .u64 x0, .int .u64 x1, .int .u64 x2] T)).drewN n) b x0 x1 x2 := by
  subst hb
  refine ⟨?_, ?_, ?_, ?_, ?_, ?_⟩ <;> simp [go_sem]

theorem putWords_new (w : World) (b n : Nat) (hb : b = w.heap.size) (x0 x1 x2 y0 y1 y2 : Int) (T : TypeId) :
    putWords ((w.alloc (.cells #[.int .u64 x0, .int .u64 x1, .int .u64 x2] T)).drewN n) b y0 y1 y2 = (w.alloc (.cells #[.int .u64 y0, .int .u64 y1, .int .u64 y2] T)).drewN n := by
  subst hb
  show (putWords (w.alloc (.cells #[.int .u64 x0, .int .u64 x1, .int .u64 x2] T)) w.heap.size y0 y1 y2).drewN n = _
  congr 1
  unfold putWords
  simp [go_sem]

/-- add at a new block. -/
theorem add0_new (W : World) (T : TypeId) (b n : Nat) (hb : b = W.heap.size) (x0 x1 x2 x y0 y1 y2 : Int)
    (x0l : 0 ≤ x0) (x0u : x0 < 18446744073709551616) (x1l : 0 ≤ x1) (x1u : x1 < 18446744073709551616) (x2l : 0 ≤ x2) (x2u : x2 < 18446744073709551616) (xl : 0 ≤ x) (xu : x < 18446744073709551616)
    (e0 : y0 = (x0 + x) % 18446744073709551616) (e1 : y1 = (x1 + (x0 + x) / 18446744073709551616) % 18446744073709551616) (e2 : y2 = (x2 + (x1 + (x0 + x) / 18446744073709551616) / 18446744073709551616) % 18446744073709551616) :
    Calls Try.prog 152 #[.pointer (some ⟨b, 0, none⟩), .int .i64 0, .int .u64 x] ((W.alloc (.cells #[.int .u64 x0, .int .u64 x1, .int .u64 x2] T)).drewN n) fun e w' =>
      e = .returned (.tuple #[]) ∧ ∃ m, w' = (W.alloc (.cells #[.int .u64 y0, .int .u64 y1, .int .u64 y2] T)).drewN m := by
  refine (add0 b x0 x1 x2 x y0 y1 y2 _ (words_new W b n hb x0 x1 x2 T) x0l x0u x1l x1u x2l x2u xl xu e0 e1 e2).mono ?_
  rintro e w' ⟨rfl, m, rfl⟩
  rw [putWords_new _ _ _ hb]
  exact ⟨rfl, n + m, by rw [World.drewN_drewN]⟩


theorem add1_new (W : World) (T : TypeId) (b n : Nat) (hb : b = W.heap.size) (x0 x1 x2 x y1 y2 : Int)
    (x1l : 0 ≤ x1) (x1u : x1 < 18446744073709551616) (x2l : 0 ≤ x2) (x2u : x2 < 18446744073709551616) (xl : 0 ≤ x) (xu : x < 18446744073709551616)
    (e1 : y1 = (x1 + x) % 18446744073709551616) (e2 : y2 = (x2 + (x1 + x) / 18446744073709551616) % 18446744073709551616) :
    Calls Try.prog 152 #[.pointer (some ⟨b, 0, none⟩), .int .i64 1, .int .u64 x] ((W.alloc (.cells #[.int .u64 x0, .int .u64 x1, .int .u64 x2] T)).drewN n) fun e w' =>
      e = .returned (.tuple #[]) ∧ ∃ m, w' = (W.alloc (.cells #[.int .u64 x0, .int .u64 y1, .int .u64 y2] T)).drewN m := by
  refine (add1 b x0 x1 x2 x y1 y2 _ (words_new W b n hb x0 x1 x2 T) x1l x1u x2l x2u xl xu e1 e2).mono ?_
  rintro e w' ⟨rfl, m, rfl⟩
  rw [putWords_new _ _ _ hb]
  exact ⟨rfl, n + m, by rw [World.drewN_drewN]⟩

theorem add2_new (W : World) (T : TypeId) (b n : Nat) (hb : b = W.heap.size) (x0 x1 x2 x y2 : Int)
    (x2l : 0 ≤ x2) (x2u : x2 < 18446744073709551616) (xl : 0 ≤ x) (xu : x < 18446744073709551616)
    (e2 : y2 = x2 + x) (h2u : y2 < 18446744073709551616) :
    Calls Try.prog 152 #[.pointer (some ⟨b, 0, none⟩), .int .i64 2, .int .u64 x] ((W.alloc (.cells #[.int .u64 x0, .int .u64 x1, .int .u64 x2] T)).drewN n) fun e w' =>
      e = .returned (.tuple #[]) ∧ ∃ m, w' = (W.alloc (.cells #[.int .u64 x0, .int .u64 x1, .int .u64 y2] T)).drewN m := by
  refine (add2 b x0 x1 x2 x y2 _ (words_new W b n hb x0 x1 x2 T) x2l x2u xl xu e2 h2u).mono ?_
  rintro e w' ⟨rfl, m, rfl⟩
  rw [putWords_new _ _ _ hb]
  exact ⟨rfl, n + m, by rw [World.drewN_drewN]⟩

set_option maxHeartbeats 400000 in
/-- wide.Plus: the sum, or full. -/
theorem plus_any (ah al bh bl : Int) (w : World) (ahl : 0 ≤ ah) (ahu : ah < 18446744073709551616) (all : 0 ≤ al) (alu : al < 18446744073709551616) (bhl : 0 ≤ bh) (bhu : bh < 18446744073709551616) (bll : 0 ≤ bl) (blu : bl < 18446744073709551616) :
    Calls Try.prog 64 #[.agg #[.int .u64 ah, .int .u64 al], .agg #[.int .u64 bh, .int .u64 bl]] w fun e w' =>
      e = .returned (wRes (ah * 18446744073709551616 + al + (bh * 18446744073709551616 + bl))) ∧ Below w.heap.size w w' := by
  obtain ⟨T, hT⟩ : ∃ T, T = ah * 18446744073709551616 + al + (bh * 18446744073709551616 + bl) := ⟨_, rfl⟩
  rw [← hT]
  obtain ⟨y0, e0⟩ : ∃ y, y = (al + bl) % 18446744073709551616 := ⟨_, rfl⟩
  obtain ⟨c, ec⟩ : ∃ y, y = (al + bl) / 18446744073709551616 := ⟨_, rfl⟩
  obtain ⟨t1, et1⟩ : ∃ y, y = (ah + c) % 18446744073709551616 := ⟨_, rfl⟩
  obtain ⟨t2, et2⟩ : ∃ y, y = (0 + (ah + c) / 18446744073709551616) % 18446744073709551616 := ⟨_, rfl⟩
  obtain ⟨y1, e1⟩ : ∃ y, y = (t1 + bh) % 18446744073709551616 := ⟨_, rfl⟩
  obtain ⟨y2, e2⟩ : ∃ y, y = (t2 + (t1 + bh) / 18446744073709551616) % 18446744073709551616 := ⟨_, rfl⟩
  have q0 : T % 18446744073709551616 = y0 := by omega
  have q1 : T / 18446744073709551616 % 18446744073709551616 = y1 := by omega
  have q2 : T / 340282366920938463463374607431768211456 = y2 := by omega
  unfold wRes
  rw [q0, q1, q2]
  clear q0 q1 q2 hT
  have C0 := fun (W : World) (b : Nat) hb => add0_new W 169 b 0 hb al ah 0 bl y0 t1 t2 all alu ahl ahu (by omega) (by omega) bll blu e0 (by rw [← ec]; exact et1) (by rw [← ec]; exact et2)
  have C1 := fun (W : World) (b n : Nat) hb => add1_new W 169 b n hb y0 t1 t2 bh y1 y2 (by omega) (by omega) (by omega) (by omega) bhl bhu e1 e2
  have H0 := hide C0
  have H1 := hide C1
  clear C0 C1 e0 ec et1 et2 e1 e2
  go_enter Try.func64, Try.ntmps64
  go_wp2_with fail
  refine (H0.out _ _ (by simp)).mono ?_
  rintro e w1 ⟨rfl, m1, rfl⟩
  go_wp2_with fail
  refine (H1.out _ _ _ (by simp)).mono ?_
  rintro e w1 ⟨rfl, m2, rfl⟩
  go_wp2_with fail
  refine (wide_any _ _ _ _).mono ?_
  rintro e w1 ⟨rfl, hb⟩
  obtain ⟨hc, hf, hz⟩ := bcell hb
  simp only [World.heap_drewN, World.size_alloc] at hc hf hz
  go_wp2
  exact bodyPost_ret (v := .tuple #[.agg #[.int .u64 (okN y2 y1), .int .u64 (okN y2 y0)], .int .i64 (errN y2)]) (by simp [results, Try.results64, go_sem, hc]) rfl ⟨rfl, (by repeat (first | exact Below.refl _ _ | refine Below.setCell ?_ (by simp <;> omega) _ | refine below_drewN ?_ _ | refine Below.drew ?_ | refine Below.alloc ?_ (by simp <;> omega) _ | refine Below.trans ?_ (Below.mono (by assumption) (by simp <;> omega))))⟩

end WideA
end Go.Proofs.Ytackcnncjeajpaa
