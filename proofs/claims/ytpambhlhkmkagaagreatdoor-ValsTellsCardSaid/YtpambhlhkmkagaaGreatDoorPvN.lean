/-
  WideA, WideB, Seq, WideI, WideF, WideG, WideR, WideS, ValI, in one text.
-/
import Derived.Test.YtpambhlhkmkagaaGreatDoorProg
import Derived.WalkKit
import Derived.WalkSpells
import Derived.WalkLawsBesides
import Derived.BigQuiet
import Derived.BigRegion
import Derived.RegionTactic
import Derived.ChangeAlike
import Derived.Deep.QuietTactic
import Derived.StillTailTactics
import Derived.Deep.RegionHeld3
import Derived.Deep.DeepCutAuto
import Derived.Shelf.Spec.BitsCarry
import Derived.Shelf.Bits.Mul64
import Derived.RangeFuncNested
import Derived.RangeFuncBound
import Derived.RangeFuncCalls
import Derived.RangeFuncLeaves
import Derived.Deep.Draws
import Derived.OwnWalkIn
import Derived.TacticsInMore
import Derived.LoopNIn
import Derived.LoopIn
import Derived.Laws.BytesArg
import Derived.OneCell
import Derived.Test.YtpambhlhkmkagaaGreatDoorPvM
import Derived.Laws.OwnMore
namespace Go.Proofs.YtpambhlhkmkagaaGreatDoor
open Go.RowKit Go.Shelf

namespace WideA

/-- Old cells and marks read as before. -/
theorem bcell {W w1 : World} (hb : Below W.heap.size W w1) : (∀ b o, b < W.heap.size → w1.cell? ⟨b, o, none⟩ = W.cell? ⟨b, o, none⟩) ∧ (∀ b o, b < W.heap.size → w1.frozen? ⟨b, o, none⟩ = W.frozen? ⟨b, o, none⟩) ∧ W.heap.size ≤ w1.heap.size :=
  ⟨fun b o h => hb.cell (p := ⟨b, o, none⟩) h, fun b o h => hb.frozen (p := ⟨b, o, none⟩) h, hb.size⟩

/-- A fact that the walk does not take for a rule. -/
theorem hide {p : Prop} (h : p) : Hid p := h

theorem add64 (x y c : Int) (hx : 0 ≤ x) (hx' : x < 18446744073709551616) (hy : 0 ≤ y) (hy' : y < 18446744073709551616) (hc0 : 0 ≤ c) (hc : c ≤ 1) (w : World) :
    (callFunc 94 #[.int .u64 x, .int .u64 y, .int .u64 c]).run Tryz.prog w =
    .ok (.value (.tuple #[.int .u64 ((x + y + c) % 18446744073709551616), .int .u64 ((x + y + c) / 18446744073709551616)])) w := by
  obtain ⟨x, rfl⟩ := Int.eq_ofNat_of_zero_le hx
  obtain ⟨y, rfl⟩ := Int.eq_ofNat_of_zero_le hy
  obtain ⟨c, rfl⟩ := Int.eq_ofNat_of_zero_le hc0
  rw [run_callFunc_extern Tryz.func94 (by kernel_rfl) (by kernel_rfl) (by kernel_rfl) (e := add64Entry) (by kernel_rfl), run_add64 x y c (by omega) (by omega) (by omega) (by omega)]
  rfl


theorem setCell_self {w : World} {a : Addr} {v : Value} (h : w.cell? a = some v) : w.setCell a v = w := by
  have e : w.heap.modify a.block (fun | .cells c elem frozen => .cells (if a.spot.isSome then c else c.setIfInBounds a.off v) elem frozen | o => o) = w.heap := by
    apply Array.ext (by simp)
    intro i h1 h2
    rw [Array.getElem_modify]
    split
    · rename_i hi
      subst hi
      unfold World.cell? at h
      rw [Array.getElem?_eq_getElem h2] at h
      split at h
      · rename_i c t fr heq
        simp only [Option.some.injEq] at heq
        rw [heq]
        split at h
        · cases h
        · rename_i hs
          show Obj.cells (if a.spot.isSome = true then c else c.setIfInBounds a.off v) t fr = _
          rw [if_neg hs]
          congr 1
          apply Array.ext (by simp)
          intro j j1 j2
          by_cases hj : a.off = j
          · subst hj
            rw [Array.getElem?_eq_getElem j2] at h
            simp at h
            simp [h]
          · exact Array.getElem_setIfInBounds_ne (by simpa using j2) hj
      · cases h
    · rfl
  unfold World.setCell
  exact congrArg (fun hp : Array Obj => ({ w with heap := hp } : World)) e

/-- What is handed back of a number that may need more than 128 bits: c is what stands above. -/
def okN (c x : Int) : Int := if c = 0 then x else 0
def errN (c : Int) : Int := if c = 0 then 0 else 7
theorem okN_zero (x : Int) : okN 0 x = x := by simp [okN]
theorem okN_other {c : Int} (h : c ≠ 0) (x : Int) : okN c x = 0 := by simp [okN, h]
theorem errN_zero : errN 0 = 0 := by simp [errN]
theorem errN_other {c : Int} (h : c ≠ 0) : errN c = 7 := by simp [errN, h]

/-- The two results of a sum or product T: a wide and an error. -/
def wRes (T : Int) : Value := .tuple #[.agg #[.int .u64 (okN (T / 340282366920938463463374607431768211456) (T / 18446744073709551616 % 18446744073709551616)), .int .u64 (okN (T / 340282366920938463463374607431768211456) (T % 18446744073709551616))], .int .i64 (errN (T / 340282366920938463463374607431768211456))]

set_option maxHeartbeats 400000 in
theorem wide_any (a b c : Int) (w : World) :
    Calls Tryz.prog 75 #[.agg #[.int .u64 a, .int .u64 b, .int .u64 c]] w fun e w' =>
      e = .returned (.tuple #[.agg #[.int .u64 (okN c b), .int .u64 (okN c a)], .int .i64 (errN c)]) ∧ Below w.heap.size w w' := by
  by_cases hc : c = 0
  · subst hc
    rw [okN_zero, okN_zero, errN_zero]
    go_enter Tryz.func75, Tryz.ntmps75
    go_wp2
    exact bodyPost_ret (v := .tuple #[.agg #[.int .u64 b, .int .u64 a], .int .i64 0]) (by simp [results, Tryz.results75, go_sem]) rfl ⟨rfl, ((Below.refl _ _).alloc (Nat.le_refl _) _).alloc (by simp) _⟩
  · rw [okN_other hc, okN_other hc, errN_other hc]
    have h : (c != 0) = true := by simp [hc]
    clear hc
    go_enter Tryz.func75, Tryz.ntmps75
    go_wp2
    exact bodyPost_ret (v := .tuple #[.agg #[.int .u64 0, .int .u64 0], .int .i64 7]) (by simp [results, Tryz.results75, go_sem]) rfl ⟨rfl, ((Below.refl _ _).alloc (Nat.le_refl _) _).alloc (by simp) _⟩

/-- What the three cells of a number at block b hold. -/
def Words (w : World) (b : Nat) (x0 x1 x2 : Int) : Prop :=
  w.cell? ⟨b, 0, none⟩ = some (.int .u64 x0) ∧ w.cell? ⟨b, 1, none⟩ = some (.int .u64 x1) ∧ w.cell? ⟨b, 2, none⟩ = some (.int .u64 x2) ∧
  w.frozen? ⟨b, 0, none⟩ = false ∧ w.frozen? ⟨b, 1, none⟩ = false ∧ w.frozen? ⟨b, 2, none⟩ = false

/-- The world with these three numbers there. -/
def putWords (w : World) (b : Nat) (y0 y1 y2 : Int) : World :=
  ((w.setCell ⟨b, 0, none⟩ (.int .u64 y0)).setCell ⟨b, 1, none⟩ (.int .u64 y1)).setCell ⟨b, 2, none⟩ (.int .u64 y2)

theorem cell_other (w : World) (b i j : Nat) (v : Value) (h : j ≠ i) : (w.setCell ⟨b, i, none⟩ v).cell? ⟨b, j, none⟩ = w.cell? ⟨b, j, none⟩ := by
  have _h := h
  simp [go_sem]

set_option maxHeartbeats 400000 in
theorem add0 (b : Nat) (x0 x1 x2 x y0 y1 y2 : Int) (w : World) (hw : Words w b x0 x1 x2)
    (x0l : 0 ≤ x0) (x0u : x0 < 18446744073709551616) (x1l : 0 ≤ x1) (x1u : x1 < 18446744073709551616) (x2l : 0 ≤ x2) (x2u : x2 < 18446744073709551616) (xl : 0 ≤ x) (xu : x < 18446744073709551616)
    (e0 : y0 = (x0 + x) % 18446744073709551616) (e1 : y1 = (x1 + (x0 + x) / 18446744073709551616) % 18446744073709551616) (e2 : y2 = (x2 + (x1 + (x0 + x) / 18446744073709551616) / 18446744073709551616) % 18446744073709551616) :
    Calls Tryz.prog 74 #[.pointer (some ⟨b, 0, none⟩), .int .i64 0, .int .u64 x] w fun e w' =>
      e = .returned (.tuple #[]) ∧ ∃ n, w' = (putWords w b y0 y1 y2).drewN n := by
  obtain ⟨h0, h1, h2, f0, f1, f2⟩ := hw
  have a1 := add64 x0 x 0 x0l x0u xl xu (by omega) (by omega)
  rw [show x0 + x + 0 = x0 + x by omega, ← e0] at a1
  by_cases hc : (x0 + x) / 18446744073709551616 = 0
  · have E1 : y1 = x1 := by omega
    have E2 : y2 = x2 := by omega
    subst E1; subst E2
    rw [hc] at a1
    have fin : ∃ n, w.setCell ⟨b, 0, none⟩ (.int .u64 y0) = (putWords w b y0 y1 y2).drewN n := by
      refine ⟨0, ?_⟩
      unfold putWords
      have s1 := setCell_self (w := w.setCell ⟨b, 0, none⟩ (.int .u64 y0)) (a := ⟨b, 1, none⟩) (v := .int .u64 y1) (by rw [cell_other _ _ _ _ _ (by decide)]; exact h1)
      have s2 := setCell_self (w := w.setCell ⟨b, 0, none⟩ (.int .u64 y0)) (a := ⟨b, 2, none⟩) (v := .int .u64 y2) (by rw [cell_other _ _ _ _ _ (by decide)]; exact h2)
      rw [s1, s2]
      rfl
    have FIN := hide fin
    clear fin e0 e1 e2 hc
    go_enter Tryz.func74, Tryz.ntmps74
    go_wp2
    refine wp_loop_rounds 1 ?_; rw [rounds_succ]
    go_wp2
    go_end0
    exact ⟨rfl, FIN.out⟩
  · have hc1 : (x0 + x) / 18446744073709551616 = 1 := by omega
    rw [hc1] at a1 e1 e2
    have a2 := add64 x1 0 1 x1l x1u (by omega) (by omega) (by omega) (by omega)
    rw [show x1 + 0 + 1 = x1 + 1 by omega, ← e1] at a2
    by_cases hd : (x1 + 1) / 18446744073709551616 = 0
    · have E2 : y2 = x2 := by omega
      subst E2
      rw [hd] at a2
      have fin : ∃ n, ((w.setCell ⟨b, 0, none⟩ (.int .u64 y0)).setCell ⟨b, 1, none⟩ (.int .u64 y1)).drew = (putWords w b y0 y1 y2).drewN n := by
        refine ⟨1, ?_⟩
        unfold putWords
        have s2 := setCell_self (w := (w.setCell ⟨b, 0, none⟩ (.int .u64 y0)).setCell ⟨b, 1, none⟩ (.int .u64 y1)) (a := ⟨b, 2, none⟩) (v := .int .u64 y2) (by rw [cell_other _ _ _ _ _ (by decide), cell_other _ _ _ _ _ (by decide)]; exact h2)
        rw [s2]
        rfl
      have FIN := hide fin
      clear fin e0 e1 e2 hc hc1 hd
      go_enter Tryz.func74, Tryz.ntmps74
      go_wp2
      refine wp_loop_rounds 2 ?_; rw [rounds_succ]
      go_wp2
      go_region
      go_wp2
      rw [rounds_succ]
      go_wp2
      go_end0
      exact ⟨rfl, FIN.out⟩
    · have hd1 : (x1 + 1) / 18446744073709551616 = 1 := by omega
      rw [hd1] at a2 e2
      have a3 := add64 x2 0 1 x2l x2u (by omega) (by omega) (by omega) (by omega)
      rw [show x2 + 0 + 1 = x2 + 1 by omega, ← e2] at a3
      have fin : ∃ n, (((w.setCell ⟨b, 0, none⟩ (.int .u64 y0)).setCell ⟨b, 1, none⟩ (.int .u64 y1)).setCell ⟨b, 2, none⟩ (.int .u64 y2)).drew.drew = (putWords w b y0 y1 y2).drewN n := ⟨2, rfl⟩
      have FIN := hide fin
      by_cases he : (x2 + 1) / 18446744073709551616 = 0
      all_goals
        have hdec : (((x2 + 1) / 18446744073709551616 != 0) = true) ∨ (((x2 + 1) / 18446744073709551616 != 0) = false) := by cases ((x2 + 1) / 18446744073709551616 != 0) <;> simp
        rcases hdec with hdec | hdec
        all_goals
          clear fin e0 e1 e2 hc hc1 hd hd1 he
          go_enter Tryz.func74, Tryz.ntmps74
          go_wp2
          refine wp_loop_rounds 3 ?_; rw [rounds_succ]
          go_wp2
          go_region
          go_wp2
          rw [rounds_succ]
          go_wp2
          go_region
          go_wp2
          rw [rounds_succ]
          go_wp2
          go_end0
          exact ⟨rfl, FIN.out⟩

set_option maxHeartbeats 400000 in
theorem add1 (b : Nat) (x0 x1 x2 x y1 y2 : Int) (w : World) (hw : Words w b x0 x1 x2)
    (x1l : 0 ≤ x1) (x1u : x1 < 18446744073709551616) (x2l : 0 ≤ x2) (x2u : x2 < 18446744073709551616) (xl : 0 ≤ x) (xu : x < 18446744073709551616)
    (e1 : y1 = (x1 + x) % 18446744073709551616) (e2 : y2 = (x2 + (x1 + x) / 18446744073709551616) % 18446744073709551616) :
    Calls Tryz.prog 74 #[.pointer (some ⟨b, 0, none⟩), .int .i64 1, .int .u64 x] w fun e w' =>
      e = .returned (.tuple #[]) ∧ ∃ n, w' = (putWords w b x0 y1 y2).drewN n := by
  obtain ⟨h0, h1, h2, f0, f1, f2⟩ := hw
  have a1 := add64 x1 x 0 x1l x1u xl xu (by omega) (by omega)
  rw [show x1 + x + 0 = x1 + x by omega, ← e1] at a1
  have s0 := setCell_self h0
  by_cases hc : (x1 + x) / 18446744073709551616 = 0
  · have E2 : y2 = x2 := by omega
    subst E2
    rw [hc] at a1
    have fin : ∃ n, w.setCell ⟨b, 1, none⟩ (.int .u64 y1) = (putWords w b x0 y1 y2).drewN n := by
      refine ⟨0, ?_⟩
      unfold putWords
      have s2 := setCell_self (w := w.setCell ⟨b, 1, none⟩ (.int .u64 y1)) (a := ⟨b, 2, none⟩) (v := .int .u64 y2) (by rw [cell_other _ _ _ _ _ (by decide)]; exact h2)
      rw [s0, s2]
      rfl
    have FIN := hide fin
    clear fin e1 e2 hc s0
    go_enter Tryz.func74, Tryz.ntmps74
    go_wp2
    refine wp_loop_rounds 1 ?_; rw [rounds_succ]
    go_wp2
    go_end0
    exact ⟨rfl, FIN.out⟩
  · have hc1 : (x1 + x) / 18446744073709551616 = 1 := by omega
    rw [hc1] at a1 e2
    have a3 := add64 x2 0 1 x2l x2u (by omega) (by omega) (by omega) (by omega)
    rw [show x2 + 0 + 1 = x2 + 1 by omega, ← e2] at a3
    have fin : ∃ n, ((w.setCell ⟨b, 1, none⟩ (.int .u64 y1)).setCell ⟨b, 2, none⟩ (.int .u64 y2)).drew = (putWords w b x0 y1 y2).drewN n := by
      refine ⟨1, ?_⟩
      unfold putWords
      rw [s0]
      rfl
    have FIN := hide fin
    by_cases he : (x2 + 1) / 18446744073709551616 = 0
    all_goals
      have hdec : (((x2 + 1) / 18446744073709551616 != 0) = true) ∨ (((x2 + 1) / 18446744073709551616 != 0) = false) := by cases ((x2 + 1) / 18446744073709551616 != 0) <;> simp
      rcases hdec with hdec | hdec
      all_goals
        clear fin e1 e2 hc hc1 he s0
        go_enter Tryz.func74, Tryz.ntmps74
        go_wp2
        refine wp_loop_rounds 2 ?_; rw [rounds_succ]
        go_wp2
        go_region
        go_wp2
        rw [rounds_succ]
        go_wp2
        go_end0
        exact ⟨rfl, FIN.out⟩

/-- Words after a new block with three numbers. -/
theorem words_new (w : World) (b n : Nat) (hb : b = w.heap.size) (x0 x1 x2 : Int) (T : TypeId) : Words ((w.alloc (.cells #[.int .u64 x0, .int .u64 x1, .int .u64 x2] T)).drewN n) b x0 x1 x2 := by
  subst hb
  refine ⟨?_, ?_, ?_, ?_, ?_, ?_⟩ <;> simp [go_sem]

theorem putWords_new (w : World) (b n : Nat) (hb : b = w.heap.size) (x0 x1 x2 y0 y1 y2 : Int) (T : TypeId) :
    putWords ((w.alloc (.cells #[.int .u64 x0, .int .u64 x1, .int .u64 x2] T)).drewN n) b y0 y1 y2 = (w.alloc (.cells #[.int .u64 y0, .int .u64 y1, .int .u64 y2] T)).drewN n := by
  subst hb
  show (putWords (w.alloc (.cells #[.int .u64 x0, .int .u64 x1, .int .u64 x2] T)) w.heap.size y0 y1 y2).drewN n = _
  congr 1
  unfold putWords
  simp [go_sem]

/-- add at a new block. -/
theorem add0_new (W : World) (T : TypeId) (b n : Nat) (hb : b = W.heap.size) (x0 x1 x2 x y0 y1 y2 : Int)
    (x0l : 0 ≤ x0) (x0u : x0 < 18446744073709551616) (x1l : 0 ≤ x1) (x1u : x1 < 18446744073709551616) (x2l : 0 ≤ x2) (x2u : x2 < 18446744073709551616) (xl : 0 ≤ x) (xu : x < 18446744073709551616)
    (e0 : y0 = (x0 + x) % 18446744073709551616) (e1 : y1 = (x1 + (x0 + x) / 18446744073709551616) % 18446744073709551616) (e2 : y2 = (x2 + (x1 + (x0 + x) / 18446744073709551616) / 18446744073709551616) % 18446744073709551616) :
    Calls Tryz.prog 74 #[.pointer (some ⟨b, 0, none⟩), .int .i64 0, .int .u64 x] ((W.alloc (.cells #[.int .u64 x0, .int .u64 x1, .int .u64 x2] T)).drewN n) fun e w' =>
      e = .returned (.tuple #[]) ∧ ∃ m, w' = (W.alloc (.cells #[.int .u64 y0, .int .u64 y1, .int .u64 y2] T)).drewN m := by
  refine (add0 b x0 x1 x2 x y0 y1 y2 _ (words_new W b n hb x0 x1 x2 T) x0l x0u x1l x1u x2l x2u xl xu e0 e1 e2).mono ?_
  rintro e w' ⟨rfl, m, rfl⟩
  rw [putWords_new _ _ _ hb]
  exact ⟨rfl, n + m, by rw [World.drewN_drewN]⟩


theorem add1_new (W : World) (T : TypeId) (b n : Nat) (hb : b = W.heap.size) (x0 x1 x2 x y1 y2 : Int)
    (x1l : 0 ≤ x1) (x1u : x1 < 18446744073709551616) (x2l : 0 ≤ x2) (x2u : x2 < 18446744073709551616) (xl : 0 ≤ x) (xu : x < 18446744073709551616)
    (e1 : y1 = (x1 + x) % 18446744073709551616) (e2 : y2 = (x2 + (x1 + x) / 18446744073709551616) % 18446744073709551616) :
    Calls Tryz.prog 74 #[.pointer (some ⟨b, 0, none⟩), .int .i64 1, .int .u64 x] ((W.alloc (.cells #[.int .u64 x0, .int .u64 x1, .int .u64 x2] T)).drewN n) fun e w' =>
      e = .returned (.tuple #[]) ∧ ∃ m, w' = (W.alloc (.cells #[.int .u64 x0, .int .u64 y1, .int .u64 y2] T)).drewN m := by
  refine (add1 b x0 x1 x2 x y1 y2 _ (words_new W b n hb x0 x1 x2 T) x1l x1u x2l x2u xl xu e1 e2).mono ?_
  rintro e w' ⟨rfl, m, rfl⟩
  rw [putWords_new _ _ _ hb]
  exact ⟨rfl, n + m, by rw [World.drewN_drewN]⟩

set_option maxHeartbeats 400000 in
/-- wide.Plus: the sum, or full. -/
theorem plus_any (ah al bh bl : Int) (w : World) (ahl : 0 ≤ ah) (ahu : ah < 18446744073709551616) (all : 0 ≤ al) (alu : al < 18446744073709551616) (bhl : 0 ≤ bh) (bhu : bh < 18446744073709551616) (bll : 0 ≤ bl) (blu : bl < 18446744073709551616) :
    Calls Tryz.prog 47 #[.agg #[.int .u64 ah, .int .u64 al], .agg #[.int .u64 bh, .int .u64 bl]] w fun e w' =>
      e = .returned (wRes (ah * 18446744073709551616 + al + (bh * 18446744073709551616 + bl))) ∧ Below w.heap.size w w' := by
  obtain ⟨T, hT⟩ : ∃ T, T = ah * 18446744073709551616 + al + (bh * 18446744073709551616 + bl) := ⟨_, rfl⟩
  rw [← hT]
  obtain ⟨y0, e0⟩ : ∃ y, y = (al + bl) % 18446744073709551616 := ⟨_, rfl⟩
  obtain ⟨c, ec⟩ : ∃ y, y = (al + bl) / 18446744073709551616 := ⟨_, rfl⟩
  obtain ⟨t1, et1⟩ : ∃ y, y = (ah + c) % 18446744073709551616 := ⟨_, rfl⟩
  obtain ⟨t2, et2⟩ : ∃ y, y = (0 + (ah + c) / 18446744073709551616) % 18446744073709551616 := ⟨_, rfl⟩
  obtain ⟨y1, e1⟩ : ∃ y, y = (t1 + bh) % 18446744073709551616 := ⟨_, rfl⟩
  obtain ⟨y2, e2⟩ : ∃ y, y = (t2 + (t1 + bh) / 18446744073709551616) % 18446744073709551616 := ⟨_, rfl⟩
  have q0 : T % 18446744073709551616 = y0 := by omega
  have q1 : T / 18446744073709551616 % 18446744073709551616 = y1 := by omega
  have q2 : T / 340282366920938463463374607431768211456 = y2 := by omega
  unfold wRes
  rw [q0, q1, q2]
  clear q0 q1 q2 hT
  have C0 := fun (W : World) (b : Nat) hb => add0_new W 120 b 0 hb al ah 0 bl y0 t1 t2 all alu ahl ahu (by omega) (by omega) bll blu e0 (by rw [← ec]; exact et1) (by rw [← ec]; exact et2)
  have C1 := fun (W : World) (b n : Nat) hb => add1_new W 120 b n hb y0 t1 t2 bh y1 y2 (by omega) (by omega) (by omega) (by omega) bhl bhu e1 e2
  have H0 := hide C0
  have H1 := hide C1
  clear C0 C1 e0 ec et1 et2 e1 e2
  go_enter Tryz.func47, Tryz.ntmps47
  go_wp2_with fail
  refine (H0.out _ _ (by simp)).mono ?_
  rintro e w1 ⟨rfl, m1, rfl⟩
  go_wp2_with fail
  refine (H1.out _ _ _ (by simp)).mono ?_
  rintro e w1 ⟨rfl, m2, rfl⟩
  go_wp2_with fail
  refine (wide_any _ _ _ _).mono ?_
  rintro e w1 ⟨rfl, hb⟩
  obtain ⟨hc, hf, hz⟩ := bcell hb
  simp only [World.heap_drewN, World.size_alloc] at hc hf hz
  go_wp2
  exact bodyPost_ret (v := .tuple #[.agg #[.int .u64 (okN y2 y1), .int .u64 (okN y2 y0)], .int .i64 (errN y2)]) (by simp [results, Tryz.results47, go_sem, hc]) rfl ⟨rfl, (by repeat (first | exact Below.refl _ _ | refine Below.setCell ?_ (by simp <;> omega) _ | refine below_drewN ?_ _ | refine Below.drew ?_ | refine Below.alloc ?_ (by simp <;> omega) _ | refine Below.trans ?_ (Below.mono (by assumption) (by simp <;> omega))))⟩

end WideA
end Go.Proofs.YtpambhlhkmkagaaGreatDoor

namespace Go.Proofs.YtpambhlhkmkagaaGreatDoor
open Go.RowKit Go.Shelf
namespace WideB
open WideA

set_option maxHeartbeats 400000 in
/-- wide.Of. -/
theorem of_neg (n : Int) (w : World) (hn : n < 0) :
    Calls Tryz.prog 46 #[.int .i64 n] w fun e w' => e = .returned (.tuple #[.agg #[.int .u64 0, .int .u64 0], .int .i64 3]) ∧ Below w.heap.size w w' := by
  go_enter Tryz.func46, Tryz.ntmps46
  go_wp2
  exact bodyPost_ret (v := .tuple #[.agg #[.int .u64 0, .int .u64 0], .int .i64 3]) (by simp [results, Tryz.results46, go_sem]) rfl ⟨rfl, (by repeat (first | exact Below.refl _ _ | refine Below.setCell ?_ (by simp <;> omega) _ | refine below_drewN ?_ _ | refine Below.drew ?_ | refine Below.alloc ?_ (by simp <;> omega) _ | refine Below.trans ?_ (Below.mono (by assumption) (by simp <;> omega))))⟩

set_option maxHeartbeats 400000 in
theorem of_pos (n : Int) (w : World) (nl : 0 ≤ n) (nu : n ≤ 9223372036854775807) :
    Calls Tryz.prog 46 #[.int .i64 n] w fun e w' => e = .returned (.tuple #[.agg #[.int .u64 0, .int .u64 n], .int .i64 0]) ∧ Below w.heap.size w w' := by
  go_enter Tryz.func46, Tryz.ntmps46
  go_wp2
  exact bodyPost_ret (v := .tuple #[.agg #[.int .u64 0, .int .u64 n], .int .i64 0]) (by simp [results, Tryz.results46, go_sem]) rfl ⟨rfl, (by repeat (first | exact Below.refl _ _ | refine Below.setCell ?_ (by simp <;> omega) _ | refine below_drewN ?_ _ | refine Below.drew ?_ | refine Below.alloc ?_ (by simp <;> omega) _ | refine Below.trans ?_ (Below.mono (by assumption) (by simp <;> omega))))⟩

end WideB
end Go.Proofs.YtpambhlhkmkagaaGreatDoor

namespace Go.Proofs.YtpambhlhkmkagaaGreatDoor
open Go.RowKit
namespace Seq

/-- What lies from block B on, and was there, lies as it lay. -/
def Keeps (B : Nat) (W W' : World) : Prop := W.heap.size ≤ W'.heap.size ∧ ∀ k, B ≤ k → k < W.heap.size → W'.heap[k]? = W.heap[k]?
theorem Keeps.refl (B : Nat) (W : World) : Keeps B W W := ⟨Nat.le_refl _, fun _ _ _ => rfl⟩
theorem Keeps.trans {B : Nat} {U V W : World} (h : Keeps B U V) (k : Keeps B V W) : Keeps B U W :=
  ⟨Nat.le_trans h.1 k.1, fun i hi hl => (k.2 i hi (Nat.lt_of_lt_of_le hl h.1)).trans (h.2 i hi hl)⟩
theorem Keeps.setCell {B : Nat} {U W : World} (h : Keeps B U W) {p : Addr} (hp : p.block < B) (v : Value) : Keeps B U (W.setCell p v) :=
  h.trans ⟨by simp, fun k hk _ => Below.heap_setCell _ _ _ _ (by omega)⟩
theorem Keeps.alloc {B : Nat} {U W : World} (h : Keeps B U W) (o : Obj) : Keeps B U (W.alloc o) :=
  h.trans ⟨by simp, fun k _ hl => Below.heap_alloc _ _ _ hl⟩
theorem Keeps.drew {B : Nat} {U W : World} (h : Keeps B U W) : Keeps B U W.drew := h
theorem Keeps.below {B : Nat} {U V W : World} (h : Keeps B U V) (k : Below V.heap.size V W) : Keeps B U W :=
  h.trans ⟨k.size, fun i _ hl => k.block i hl⟩
theorem Keeps.mono {B B' : Nat} {U W : World} (h : Keeps B U W) (hB : B ≤ B') : Keeps B' U W := ⟨h.1, fun k hk => h.2 k (Nat.le_trans hB hk)⟩

variable {n : Nat} {P : Program}

end Seq
end Go.Proofs.YtpambhlhkmkagaaGreatDoor

namespace Go.Proofs.YtpambhlhkmkagaaGreatDoor
open Go.RowKit Go.Shelf
namespace WideI
open WideA WideB
open Go.Proofs.YtpambhlhkmkagaaGreatDoor.Seq
attribute [local go_sem] Oper.semAt_some

/-- A block of two words. -/
theorem two_cells {W : World} {b : Nat} {x y : Value} {t : TypeId} (h : W.heap[b]? = some (.cells #[x, y] t (0, 0))) :
    W.cell? ⟨b, 0, none⟩ = some x ∧ W.cell? ⟨b, 1, none⟩ = some y ∧ W.frozen? ⟨b, 0, none⟩ = false ∧ W.frozen? ⟨b, 1, none⟩ = false := by
  refine ⟨?_, ?_, ?_, ?_⟩ <;> simp [World.cell?, World.frozen?, h]
theorem two_put {W : World} {b : Nat} {x y : Value} {t : TypeId} (x' y' : Value) (h : W.heap[b]? = some (.cells #[x, y] t (0, 0))) :
    ((W.setCell ⟨b, 0, none⟩ x').setCell ⟨b, 1, none⟩ y').heap[b]? = some (.cells #[x', y'] t (0, 0)) := by
  have h1 := heap_setCell_same W b 0 #[x, y] t x' h
  have h2 := heap_setCell_same _ b 1 _ t y' h1
  simpa using h2

end WideI
end Go.Proofs.YtpambhlhkmkagaaGreatDoor

namespace Go.Proofs.YtpambhlhkmkagaaGreatDoor
open Go.RowKit Go.Shelf
namespace WideF
open WideA WideB WideI

theorem wRes_ok {V : Int} (h0 : 0 ≤ V) (h : V < 340282366920938463463374607431768211456) : wRes V = .tuple #[.agg #[.int .u64 (V / 18446744073709551616), .int .u64 (V % 18446744073709551616)], .int .i64 0] := by
  unfold wRes
  have hc : V / 340282366920938463463374607431768211456 = 0 := by omega
  rw [hc, okN_zero, okN_zero, errN_zero, show V / 18446744073709551616 % 18446744073709551616 = V / 18446744073709551616 by omega]

set_option maxHeartbeats 400000 in
theorem sj_neg (h l n : Int) (w : World) (hn : n < 0) :
    Calls Tryz.prog 45 #[.agg #[.int .u64 h, .int .u64 l], .int .i64 n] w fun e w' =>
      e = .returned (.tuple #[.agg #[.int .u64 0, .int .u64 0], .int .i64 3]) ∧ Below w.heap.size w w' := by
  have H1 := hide (fun W => of_neg n W hn)
  go_enter Tryz.func45, Tryz.ntmps45
  go_wp2_with fail
  refine (H1.out _).mono ?_
  rintro e w1 ⟨rfl, hb⟩
  obtain ⟨hc, hf, hz⟩ := bcell hb
  simp only [World.size_alloc] at hc hf hz
  have hz1 : w.heap.size + 1 < w1.heap.size := by omega
  go_wp2
  exact bodyPost_ret (v := .tuple #[.agg #[.int .u64 0, .int .u64 0], .int .i64 3]) (by simp [results, Tryz.results45, go_sem, hc, hz1]) rfl ⟨rfl, (by repeat (first | assumption | exact Below.refl _ _ | refine Below.setCell ?_ (by first | omega | (simp; done) | (simp; omega)) _ | refine below_drewN ?_ _ | refine Below.drew ?_ | refine Below.alloc ?_ (by first | omega | (simp; done) | (simp; omega)) _ | refine Below.trans ?_ (Below.mono (by assumption) (by first | omega | (simp; done) | (simp; omega)))))⟩

set_option maxHeartbeats 400000 in
theorem sj_pos (h l n : Int) (w : World) (hl : 0 ≤ h) (hu : h < 18446744073709551616) (ll : 0 ≤ l) (lu : l < 18446744073709551616) (n0 : 0 ≤ n) (n1 : n ≤ 9223372036854775807) :
    Calls Tryz.prog 45 #[.agg #[.int .u64 h, .int .u64 l], .int .i64 n] w fun e w' =>
      e = .returned (wRes (h * 18446744073709551616 + l + n)) ∧ Below w.heap.size w w' := by
  have H1 := hide (fun W => of_pos n W n0 n1)
  have C2 := fun W => plus_any h l 0 n W hl hu ll lu (by decide) (by decide) n0 (by omega)
  rw [show h * 18446744073709551616 + l + (0 * 18446744073709551616 + n) = h * 18446744073709551616 + l + n by omega] at C2
  have H2 := hide C2
  clear C2
  unfold wRes at H2 ⊢
  generalize h * 18446744073709551616 + l + n = V at *
  generalize okN (V / 340282366920938463463374607431768211456) (V / 18446744073709551616 % 18446744073709551616) = x at *
  generalize okN (V / 340282366920938463463374607431768211456) (V % 18446744073709551616) = y at *
  generalize errN (V / 340282366920938463463374607431768211456) = z at *
  go_enter Tryz.func45, Tryz.ntmps45
  go_wp2_with fail
  refine (H1.out _).mono ?_
  rintro e w1 ⟨rfl, hb⟩
  obtain ⟨hc, hf, hz⟩ := bcell hb
  simp only [World.size_alloc] at hc hf hz
  have hz0 : w.heap.size < w1.heap.size := by omega
  have hz1 : w.heap.size + 1 < w1.heap.size := by omega
  go_wp2_with fail
  refine (H2.out _).mono ?_
  rintro e w2 ⟨rfl, hb2⟩
  obtain ⟨hc2, hf2, hs2⟩ := bcell hb2
  simp only [World.size_alloc] at hc2 hf2 hs2
  have hz2 : w.heap.size + 1 < w1.heap.size + 1 := by omega
  go_wp2
  exact bodyPost_ret (v := .tuple #[.agg #[.int .u64 x, .int .u64 y], .int .i64 z]) (by simp [results, Tryz.results45, go_sem, hc, hc2, hz1, hz2]) rfl ⟨rfl, (by repeat (first | assumption | exact Below.refl _ _ | refine Below.setCell ?_ (by first | omega | (simp; done) | (simp; omega)) _ | refine below_drewN ?_ _ | refine Below.drew ?_ | refine Below.alloc ?_ (by first | omega | (simp; done) | (simp; omega)) _ | refine Below.trans ?_ (Below.mono (by assumption) (by first | omega | (simp; done) | (simp; omega)))))⟩


/-- What is known at the head of a round of the fold. -/
def foldIMid (w : World) (A : Int) (wr : World) : Prop :=
  wr.heap[w.heap.size + 1]? = some (.cells #[.int .u64 0, .int .u64 0] 29 (0, 0)) ∧ wr.heap[w.heap.size + 1 + 1]? = some (.cells #[.int .u64 (A / 18446744073709551616), .int .u64 (A % 18446744073709551616)] 29 (0, 0)) ∧ Below w.heap.size w wr ∧ w.heap.size + 1 + 1 + 1 ≤ wr.heap.size
theorem foldIMid_below {w wr w1 : World} {A : Int} (h : foldIMid w A wr) (hb : Below wr.heap.size wr w1) : foldIMid w A w1 := by
  obtain ⟨h1, h2, h3, h4⟩ := h
  exact ⟨(hb.block _ (by omega)).trans h1, (hb.block _ (by omega)).trans h2, h3.trans (hb.mono h3.size), Nat.le_trans h4 hb.size⟩

set_option maxHeartbeats 1000000 in
theorem foldI (xs : List Int) (acc : Nat → Int) (stop : Nat) (code : Int) (a : Option Addr) (b off n cap : Nat) (w : World) (hn : n = xs.length) (hn63 : n ≤ 9223372036854775807)
    (ha : n = 0 ∨ a = some ⟨b, off, none⟩) (hcell : ∀ k, k < n → w.cell? ⟨b, off + k, none⟩ = some (.int .i64 (xs.getD k 0))) (hb : b < w.heap.size) (h0 : acc 0 = 0) (hs : stop ≤ n)
    (hok : ∀ k, k < stop → ∀ W, Calls Tryz.prog 45 #[.agg #[.int .u64 (acc k / 18446744073709551616), .int .u64 (acc k % 18446744073709551616)], .int .i64 (xs.getD k 0)] W fun e w' =>
      e = .returned (.tuple #[.agg #[.int .u64 (acc (k + 1) / 18446744073709551616), .int .u64 (acc (k + 1) % 18446744073709551616)], .int .i64 0]) ∧ Below W.heap.size W w')
    (hend : stop = n ∨ (stop < n ∧ (code != 0) = true ∧ ∀ W, Calls Tryz.prog 45 #[.agg #[.int .u64 (acc stop / 18446744073709551616), .int .u64 (acc stop % 18446744073709551616)], .int .i64 (xs.getD stop 0)] W fun e w' =>
      e = .returned (.tuple #[.agg #[.int .u64 0, .int .u64 0], .int .i64 code]) ∧ Below W.heap.size W w')) :
    Calls Tryz.prog 44 #[.slice a n cap, .agg #[.int .u64 0, .int .u64 0], .func (.func 45) #[] #[]] w fun e w' =>
      ((stop = n ∧ e = .returned (.tuple #[.agg #[.int .u64 (acc n / 18446744073709551616), .int .u64 (acc n % 18446744073709551616)], .int .i64 0])) ∨ (stop < n ∧ e = .returned (.tuple #[.agg #[.int .u64 0, .int .u64 0], .int .i64 code]))) ∧ Below w.heap.size w w' := by
  have HC := hide hcell
  have HO := hide hok
  have HE := hide hend
  have HA := hide ha
  have H0 := hide h0
  have HN := hide hn
  have hstart : foldIMid w (acc 0) (((w.alloc (.cells #[.int .u64 0, .int .u64 0] 29)).alloc (.cells #[.int .u64 0, .int .u64 0] 29)).alloc (.cells #[.int .u64 0, .int .u64 0] 29)) := by
    rw [h0]
    have h1 := World.alloc_heap_new (w.alloc (.cells #[.int .u64 0, .int .u64 0] 29)) (.cells #[.int .u64 0, .int .u64 0] 29)
    have h2 := World.alloc_heap_new ((w.alloc (.cells #[.int .u64 0, .int .u64 0] 29)).alloc (.cells #[.int .u64 0, .int .u64 0] 29)) (.cells #[.int .u64 0, .int .u64 0] 29)
    simp only [World.size_alloc] at h1 h2
    refine ⟨?_, h2, (by repeat (first | assumption | exact Below.refl _ _ | refine Below.setCell ?_ (by first | omega | (simp; done) | (simp; omega)) _ | refine below_drewN ?_ _ | refine Below.drew ?_ | refine Below.alloc ?_ (by first | omega | (simp; done) | (simp; omega)) _ | refine Below.trans ?_ (Below.mono (by assumption) (by first | omega | (simp; done) | (simp; omega))))), by simp⟩
    rw [Below.heap_alloc _ _ _ (by simp)]
    exact h1
  have HS := hide hstart
  clear hcell hok hend ha h0 hn hstart
  go_enter Tryz.func44, Tryz.ntmps44
  go_wp2
  go_loopw [17] (fun v wr => ∃ k : Nat, k ≤ stop ∧ v = .int .i64 k ∧ foldIMid w (acc k) wr) (fun v _ => n - (intOf v).toNat)
  case atStart => exact ⟨0, by omega, rfl, HS.out⟩
  case round =>
    obtain ⟨k, hk, rfl, hM⟩ := hrel
    have HM := hide hM
    obtain ⟨hr, hacc, hB, hz⟩ := hM
    obtain ⟨p0, p1, p2, p3⟩ := two_cells hacc
    by_cases hlt : k < stop
    · have hkn : k < n := by omega
      have hcl : wr.cell? ⟨b, off + k, none⟩ = some (.int .i64 (xs.getD k 0)) := (hB.cell (p := ⟨b, off + k, none⟩) hb).trans (HC.out k hkn)
      obtain rfl : a = some ⟨b, off, none⟩ := by rcases HA.out with h | h; omega; exact h
      have HX := hide (HO.out k hlt)
      obtain ⟨x, hx⟩ : ∃ x, x = xs.getD k 0 := ⟨_, rfl⟩
      rw [← hx] at hcl HX
      clear hx hr hacc
      obtain ⟨h1, eh1⟩ : ∃ x, x = acc (k + 1) / 18446744073709551616 := ⟨_, rfl⟩
      obtain ⟨l1, el1⟩ : ∃ x, x = acc (k + 1) % 18446744073709551616 := ⟨_, rfl⟩
      rw [← eh1, ← el1] at HX
      have EH := hide eh1
      have EL := hide el1
      clear eh1 el1
      go_wp2_with fail
      refine (HX.out _).mono ?_
      rintro e w1 ⟨rfl, hb1⟩
      have hM1 := foldIMid_below HM.out hb1
      have HM1 := hide hM1
      obtain ⟨hr, hacc, hB, hz⟩ := hM1
      clear p0 p1 p2 p3 hcl hb1
      obtain ⟨p0, p1, p2, p3⟩ := two_cells hacc
      have hz1 : w.heap.size + 1 + 1 < w1.heap.size := by omega
      have hz2 : ¬ w1.heap.size = w.heap.size + 1 + 1 := by omega
      have hz3 : ¬ w.heap.size + 1 + 1 = w1.heap.size := by omega
      clear hr hacc
      go_wp2
      go_roundw
      case rel =>
        refine ⟨k + 1, by omega, by go_num, ?_⟩
        have hp : foldIMid w (acc (k + 1)) ((w1.setCell ⟨w.heap.size + 1 + 1, 0, none⟩ (.int .u64 h1)).setCell ⟨w.heap.size + 1 + 1, 1, none⟩ (.int .u64 l1)) := by
          obtain ⟨g1, g2, g3, g4⟩ := HM1.out
          unfold foldIMid
          rw [← EH.out, ← EL.out]
          refine ⟨?_, two_put _ _ g2, (g3.setCell (p := ⟨w.heap.size + 1 + 1, 0, none⟩) (by show w.heap.size ≤ w.heap.size + 1 + 1; omega) _).setCell (p := ⟨w.heap.size + 1 + 1, 1, none⟩) (by show w.heap.size ≤ w.heap.size + 1 + 1; omega) _, by simpa using g4⟩
          rw [Below.heap_setCell _ _ _ _ (by show w.heap.size + 1 ≠ w.heap.size + 1 + 1; omega), Below.heap_setCell _ _ _ _ (by show w.heap.size + 1 ≠ w.heap.size + 1 + 1; omega)]
          exact g1
        exact foldIMid_below hp ((Below.refl _ _).alloc (Nat.le_refl _) _)
      case measure => simp [intOf]; omega
    · obtain rfl : k = stop := by omega
      rcases HE.out with hkn | ⟨hkn, hcode, hJ⟩
      · obtain ⟨r0, r1, r2, r3⟩ := two_cells hr
        obtain ⟨h1, eh1⟩ : ∃ x, x = acc k / 18446744073709551616 := ⟨_, rfl⟩
        obtain ⟨l1, el1⟩ : ∃ x, x = acc k % 18446744073709551616 := ⟨_, rfl⟩
        have fin : (k = n ∧ (Ending.returned (.tuple #[.agg #[.int .u64 h1, .int .u64 l1], .int .i64 0])) = .returned (.tuple #[.agg #[.int .u64 (acc n / 18446744073709551616), .int .u64 (acc n % 18446744073709551616)], .int .i64 0])) := ⟨hkn, by rw [← hkn, eh1, el1]⟩
        have FIN := hide fin
        rw [← eh1] at p0
        rw [← el1] at p1
        have hnk : ¬ k < n := by omega
        clear hr hacc eh1 el1 fin hkn HO HE hlt
        go_wp2
        exact bodyPost_ret (v := .tuple #[.agg #[.int .u64 h1, .int .u64 l1], .int .i64 0]) (by simp [results, Tryz.results44, go_sem, r0, r1]) rfl ⟨.inl FIN.out, (by repeat (first | assumption | exact Below.refl _ _ | refine Below.setCell ?_ (by first | omega | (simp; done) | (simp; omega)) _ | refine below_drewN ?_ _ | refine Below.drew ?_ | refine Below.alloc ?_ (by first | omega | (simp; done) | (simp; omega)) _ | refine Below.trans ?_ (Below.mono (by assumption) (by first | omega | (simp; done) | (simp; omega)))))⟩
      · have hcl : wr.cell? ⟨b, off + k, none⟩ = some (.int .i64 (xs.getD k 0)) := (hB.cell (p := ⟨b, off + k, none⟩) hb).trans (HC.out k hkn)
        obtain rfl : a = some ⟨b, off, none⟩ := by rcases HA.out with h | h; omega; exact h
        have HX := hide hJ
        obtain ⟨x, hx⟩ : ∃ x, x = xs.getD k 0 := ⟨_, rfl⟩
        rw [← hx] at hcl HX
        clear hx hr hacc hJ HE HO hlt
        go_wp2_with fail
        refine (HX.out _).mono ?_
        rintro e w1 ⟨rfl, hb1⟩
        have hM1 := foldIMid_below HM.out hb1
        obtain ⟨hr, hacc, hB1, hz1⟩ := hM1
        obtain ⟨r0, r1, r2, r3⟩ := two_cells hr
        have hz4 : w.heap.size + 1 < w1.heap.size := by omega
        have hz5 : ¬ w1.heap.size = w.heap.size + 1 := by omega
        have hz7 : w.heap.size + 1 < w1.heap.size + 1 := by omega
        have hz6 : ¬ w.heap.size + 1 = w1.heap.size := by omega
        clear p0 p1 p2 p3 hcl hb1 hr hacc
        have HK := hide hkn
        clear hkn
        go_wp2
        exact bodyPost_ret (v := .tuple #[.agg #[.int .u64 0, .int .u64 0], .int .i64 code]) (by simp [results, Tryz.results44, go_sem, r0, r1, hz4, hz7]) rfl ⟨.inr ⟨HK.out, rfl⟩, (by repeat (first | assumption | exact Below.refl _ _ | refine Below.setCell ?_ (by first | omega | (simp; done) | (simp; omega)) _ | refine below_drewN ?_ _ | refine Below.drew ?_ | refine Below.alloc ?_ (by first | omega | (simp; done) | (simp; omega)) _ | refine Below.trans ?_ (Below.mono (by assumption) (by first | omega | (simp; done) | (simp; omega)))))⟩

end WideF
end Go.Proofs.YtpambhlhkmkagaaGreatDoor

namespace Go.Proofs.YtpambhlhkmkagaaGreatDoor
open Go.RowKit Go.Shelf
namespace WideG
open WideA WideB WideI WideF

/-- The first place at which something fails. -/
theorem least (P : Nat → Prop) (n : Nat) : (∀ k, k < n → P k) ∨ ∃ j, j < n ∧ ¬ P j ∧ ∀ k, k < j → P k := by
  induction n with
  | zero => exact .inl (fun k h => by omega)
  | succ n ih =>
    rcases ih with h | ⟨j, h1, h2, h3⟩
    · by_cases hp : P n
      · refine .inl fun k hk => ?_
        by_cases e : k = n
        · rw [e]; exact hp
        · exact h k (by omega)
      · exact .inr ⟨n, by omega, hp, h⟩
    · exact .inr ⟨j, by omega, h2, h3⟩

/-- The sum of the first k numbers. -/
def sumTo (xs : List Int) : Nat → Int
  | 0 => 0
  | k + 1 => sumTo xs k + xs.getD k 0
theorem sumTo_bd (xs : List Int) (hw : ∀ k, 0 ≤ xs.getD k 0 → xs.getD k 0 ≤ 9223372036854775807) : ∀ k, (∀ j, j < k → 0 ≤ xs.getD j 0) → 0 ≤ sumTo xs k ∧ sumTo xs k ≤ k * 9223372036854775807
  | 0, _ => by simp [sumTo]
  | k + 1, h => by
    have h1 := sumTo_bd xs hw k (fun j hj => h j (by omega))
    have h2 := h k (by omega)
    have h3 := hw k h2
    unfold sumTo
    omega

/-- What Sum answers. -/
def sumRes (xs : List Int) (V : Value) : Prop :=
  ((∀ k, k < xs.length → 0 ≤ xs.getD k 0) ∧ V = .tuple #[.agg #[.int .u64 (sumTo xs xs.length / 18446744073709551616), .int .u64 (sumTo xs xs.length % 18446744073709551616)], .int .i64 0]) ∨
  ((∃ k, k < xs.length ∧ xs.getD k 0 < 0) ∧ V = .tuple #[.agg #[.int .u64 0, .int .u64 0], .int .i64 3])

theorem fold_sum (xs : List Int) (a : Option Addr) (b off n cap : Nat) (w : World) (hn : n = xs.length) (hn63 : n ≤ 9223372036854775807)
    (hw : ∀ k, 0 ≤ xs.getD k 0 → xs.getD k 0 ≤ 9223372036854775807)
    (ha : n = 0 ∨ a = some ⟨b, off, none⟩) (hcell : ∀ k, k < n → w.cell? ⟨b, off + k, none⟩ = some (.int .i64 (xs.getD k 0))) (hb : b < w.heap.size) :
    Calls Tryz.prog 44 #[.slice a n cap, .agg #[.int .u64 0, .int .u64 0], .func (.func 45) #[] #[]] w fun e w' => ∃ V, e = .returned V ∧ sumRes xs V ∧ Below w.heap.size w w' := by
  have step : ∀ k, k < n → (∀ j, j < k + 1 → 0 ≤ xs.getD j 0) → ∀ W, Calls Tryz.prog 45 #[.agg #[.int .u64 (sumTo xs k / 18446744073709551616), .int .u64 (sumTo xs k % 18446744073709551616)], .int .i64 (xs.getD k 0)] W fun e w' =>
      e = .returned (.tuple #[.agg #[.int .u64 (sumTo xs (k + 1) / 18446744073709551616), .int .u64 (sumTo xs (k + 1) % 18446744073709551616)], .int .i64 0]) ∧ Below W.heap.size W w' := by
    intro k hk hp W
    have h1 := sumTo_bd xs hw k (fun j hj => hp j (by omega))
    have h2 := sumTo_bd xs hw (k + 1) hp
    have h3 := hp k (by omega)
    have C := sj_pos (sumTo xs k / 18446744073709551616) (sumTo xs k % 18446744073709551616) (xs.getD k 0) W (by omega) (by omega) (by omega) (by omega) h3 (hw k h3)
    rw [show sumTo xs k / 18446744073709551616 * 18446744073709551616 + sumTo xs k % 18446744073709551616 + xs.getD k 0 = sumTo xs (k + 1) by show _ = sumTo xs k + xs.getD k 0; omega, wRes_ok h2.1 (by omega)] at C
    exact C
  rcases least (fun k => 0 ≤ xs.getD k 0) n with hall | ⟨j, hj, hneg, hpre⟩
  · refine (foldI xs (sumTo xs) n 1 a b off n cap w hn hn63 ha hcell hb rfl (Nat.le_refl _) (fun k hk => step k hk (fun j hj => hall j (by omega))) (.inl rfl)).mono ?_
    rintro e w' ⟨h | h, hB⟩
    · exact ⟨_, h.2, .inl ⟨by rw [← hn]; exact hall, by rw [← hn]⟩, hB⟩
    · omega
  · refine (foldI xs (sumTo xs) j 3 a b off n cap w hn hn63 ha hcell hb rfl (by omega) (fun k hk => step k (by omega) (fun i hi => hpre i (by omega))) (.inr ⟨hj, by decide, fun W => sj_neg _ _ _ W (by omega)⟩)).mono ?_
    rintro e w' ⟨h | h, hB⟩
    · omega
    · exact ⟨_, h.2, .inr ⟨⟨j, by omega, by omega⟩, rfl⟩, hB⟩

set_option maxHeartbeats 400000 in
/-- wide.Sum. -/
theorem sum_any (xs : List Int) (a : Option Addr) (b off n cap : Nat) (w : World) (hn : n = xs.length) (hn63 : n ≤ 9223372036854775807)
    (hw : ∀ k, 0 ≤ xs.getD k 0 → xs.getD k 0 ≤ 9223372036854775807)
    (ha : n = 0 ∨ a = some ⟨b, off, none⟩) (hcell : ∀ k, k < n → w.cell? ⟨b, off + k, none⟩ = some (.int .i64 (xs.getD k 0))) (hb : b < w.heap.size) :
    Calls Tryz.prog 22 #[.slice a n cap] w fun e w' => ∃ V, e = .returned V ∧ sumRes xs V ∧ Below w.heap.size w w' := by
  have C := fold_sum xs a b off n cap (w.alloc (.cells #[.int .u64 0, .int .u64 0] 29)) hn hn63 hw ha (fun k hk => ((((Below.refl w.heap.size w).alloc (Nat.le_refl _) _).cell (p := ⟨b, off + k, none⟩) hb).trans (hcell k hk))) (by simp; omega)
  have H := hide C
  clear C hcell hw hn ha
  go_enter Tryz.func22, Tryz.ntmps22
  go_wp2_with fail
  refine H.out.mono ?_
  rintro e w1 ⟨V, rfl, hV, hB⟩
  obtain ⟨hc, hf, hz⟩ := bcell hB
  simp only [World.size_alloc] at hc hf hz
  obtain ⟨x, y, z, rfl⟩ : ∃ x y z : Int, V = .tuple #[.agg #[.int .u64 x, .int .u64 y], .int .i64 z] := by
    rcases hV with ⟨_, h⟩ | ⟨_, h⟩ <;> exact ⟨_, _, _, h⟩
  have HV := hide hV
  clear hV
  go_wp2
  exact bodyPost_ret (v := .tuple #[.agg #[.int .u64 x, .int .u64 y], .int .i64 z]) (by simp [results, Tryz.results22, go_sem, hc]) rfl ⟨_, rfl, HV.out, (by repeat (first | assumption | exact Below.refl _ _ | refine Below.setCell ?_ (by first | omega | (simp; done) | (simp; omega)) _ | refine below_drewN ?_ _ | refine Below.drew ?_ | refine Below.alloc ?_ (by first | omega | (simp; done) | (simp; omega)) _ | refine Below.trans ?_ (Below.mono (by assumption) (by first | omega | (simp; done) | (simp; omega)))))⟩

end WideG
end Go.Proofs.YtpambhlhkmkagaaGreatDoor

namespace Go.Proofs.YtpambhlhkmkagaaGreatDoor
open Go.RowKit Go.Shelf
namespace WideR
open WideA WideB

set_option maxHeartbeats 400000 in
theorem rplus (a b c : Int) (w : World) (al : 0 ≤ a) (au : a < 18446744073709551616) (bl : 0 ≤ b) (bu : b < 18446744073709551616) (c0 : 0 ≤ c) (c1 : c ≤ 1) :
    Calls Tryz.prog 76 #[.int .u64 a, .int .u64 b, .int .u64 c] w fun e w' => e = .returned (.tuple #[.int .u64 ((a + b + c) % 18446744073709551616), .int .u64 ((a + b + c) / 18446744073709551616)]) ∧ w' = w := by
  by_cases h : a + b < 18446744073709551616
  · by_cases h2 : a + b + c < 18446744073709551616
    · have e1 : (a + b + c) % 18446744073709551616 = a + b + c := by omega
      have e2 : (a + b + c) / 18446744073709551616 = 0 := by omega
      rw [e1, e2]
      clear e1 e2
      go_enter Tryz.func76, Tryz.ntmps76
      go_wp2
      go_ret2
      exact ⟨rfl, rfl⟩
    · have e1 : (a + b + c) % 18446744073709551616 = 0 := by omega
      have e2 : (a + b + c) / 18446744073709551616 = 1 := by omega
      have e3 : IntKind.u64.wrap (a + b + c) = 0 := by rw [IntKind.wrap_u64]; omega
      have hp : 0 < a + b := by omega
      rw [e1, e2]
      clear e1 e2
      go_enter Tryz.func76, Tryz.ntmps76
      go_wp2
      go_ret2
      exact ⟨rfl, rfl⟩
  · have e3 : IntKind.u64.wrap (a + b) = a + b - 18446744073709551616 := by rw [IntKind.wrap_u64]; omega
    obtain ⟨s, hs⟩ : ∃ s, s = a + b - 18446744073709551616 := ⟨_, rfl⟩
    rw [← hs] at e3
    have e1 : (a + b + c) % 18446744073709551616 = s + c := by omega
    have e2 : (a + b + c) / 18446744073709551616 = 1 := by omega
    have g1 : s < a := by omega
    have g2 : s + c < 18446744073709551616 := by omega
    have g3 : 0 ≤ s := by omega
    rw [e1, e2]
    clear e1 e2 hs h
    go_enter Tryz.func76, Tryz.ntmps76
    go_wp2
    go_ret2
    exact ⟨rfl, rfl⟩

set_option maxHeartbeats 400000 in
theorem rPlus (ah al bh bl : Int) (w : World) (ahl : 0 ≤ ah) (ahu : ah < 18446744073709551616) (all : 0 ≤ al) (alu : al < 18446744073709551616) (bhl : 0 ≤ bh) (bhu : bh < 18446744073709551616) (bll : 0 ≤ bl) (blu : bl < 18446744073709551616) :
    Calls Tryz.prog 49 #[.agg #[.int .u64 ah, .int .u64 al], .agg #[.int .u64 bh, .int .u64 bl]] w fun e w' =>
      e = .returned (wRes (ah * 18446744073709551616 + al + (bh * 18446744073709551616 + bl))) ∧ Below w.heap.size w w' := by
  obtain ⟨V, hT⟩ : ∃ V, V = ah * 18446744073709551616 + al + (bh * 18446744073709551616 + bl) := ⟨_, rfl⟩
  rw [← hT]
  obtain ⟨y0, e0⟩ : ∃ y, y = (al + bl + 0) % 18446744073709551616 := ⟨_, rfl⟩
  obtain ⟨c, ec⟩ : ∃ y, y = (al + bl + 0) / 18446744073709551616 := ⟨_, rfl⟩
  obtain ⟨y1, e1⟩ : ∃ y, y = (ah + bh + c) % 18446744073709551616 := ⟨_, rfl⟩
  obtain ⟨y2, e2⟩ : ∃ y, y = (ah + bh + c) / 18446744073709551616 := ⟨_, rfl⟩
  have q0 : V % 18446744073709551616 = y0 := by omega
  have q1 : V / 18446744073709551616 % 18446744073709551616 = y1 := by omega
  have q2 : V / 340282366920938463463374607431768211456 = y2 := by omega
  have C0 := fun (W : World) => rplus al bl 0 W all alu bll blu (by decide) (by decide)
  have C1 := fun (W : World) => rplus ah bh c W ahl ahu bhl bhu (by omega) (by omega)
  rw [← e0, ← ec] at C0
  rw [← e1, ← e2] at C1
  unfold wRes
  rw [q0, q1, q2]
  have hy : y2 = 0 ∨ y2 = 1 := by omega
  have H0 := hide C0
  have H1 := hide C1
  clear C0 C1 e0 ec e1 e2 q0 q1 q2 hT
  rcases hy with rfl | rfl
  · rw [okN_zero, okN_zero, errN_zero]
    go_enter Tryz.func49, Tryz.ntmps49
    go_wp2_with fail
    refine (H0.out _).mono ?_
    rintro e w1 ⟨rfl, hw⟩
    subst hw
    go_wp2_with fail
    refine (H1.out _).mono ?_
    rintro e w1 ⟨rfl, hw⟩
    subst hw
    go_wp2
    exact bodyPost_ret (v := .tuple #[.agg #[.int .u64 y1, .int .u64 y0], .int .i64 0]) (by simp [results, Tryz.results49, go_sem]) rfl ⟨rfl, (by repeat (first | assumption | exact Below.refl _ _ | refine Below.setCell ?_ (by first | omega | (simp; done) | (simp; omega)) _ | refine below_drewN ?_ _ | refine Below.drew ?_ | refine Below.alloc ?_ (by first | omega | (simp; done) | (simp; omega)) _ | refine Below.trans ?_ (Below.mono (by assumption) (by first | omega | (simp; done) | (simp; omega)))))⟩
  · rw [okN_other (by decide), okN_other (by decide), errN_other (by decide)]
    go_enter Tryz.func49, Tryz.ntmps49
    go_wp2_with fail
    refine (H0.out _).mono ?_
    rintro e w1 ⟨rfl, hw⟩
    subst hw
    go_wp2_with fail
    refine (H1.out _).mono ?_
    rintro e w1 ⟨rfl, hw⟩
    subst hw
    go_wp2
    exact bodyPost_ret (v := .tuple #[.agg #[.int .u64 0, .int .u64 0], .int .i64 7]) (by simp [results, Tryz.results49, go_sem]) rfl ⟨rfl, (by repeat (first | assumption | exact Below.refl _ _ | refine Below.setCell ?_ (by first | omega | (simp; done) | (simp; omega)) _ | refine below_drewN ?_ _ | refine Below.drew ?_ | refine Below.alloc ?_ (by first | omega | (simp; done) | (simp; omega)) _ | refine Below.trans ?_ (Below.mono (by assumption) (by first | omega | (simp; done) | (simp; omega)))))⟩

set_option maxHeartbeats 400000 in
theorem rof_neg (n : Int) (w : World) (hn : n < 0) :
    Calls Tryz.prog 48 #[.int .i64 n] w fun e w' => e = .returned (.tuple #[.agg #[.int .u64 0, .int .u64 0], .int .i64 3]) ∧ Below w.heap.size w w' := by
  go_enter Tryz.func48, Tryz.ntmps48
  go_wp2
  exact bodyPost_ret (v := .tuple #[.agg #[.int .u64 0, .int .u64 0], .int .i64 3]) (by simp [results, Tryz.results48, go_sem]) rfl ⟨rfl, (by repeat (first | assumption | exact Below.refl _ _ | refine Below.setCell ?_ (by first | omega | (simp; done) | (simp; omega)) _ | refine below_drewN ?_ _ | refine Below.drew ?_ | refine Below.alloc ?_ (by first | omega | (simp; done) | (simp; omega)) _ | refine Below.trans ?_ (Below.mono (by assumption) (by first | omega | (simp; done) | (simp; omega)))))⟩

set_option maxHeartbeats 400000 in
theorem rof_pos (n : Int) (w : World) (nl : 0 ≤ n) (nu : n ≤ 9223372036854775807) :
    Calls Tryz.prog 48 #[.int .i64 n] w fun e w' => e = .returned (.tuple #[.agg #[.int .u64 0, .int .u64 n], .int .i64 0]) ∧ Below w.heap.size w w' := by
  go_enter Tryz.func48, Tryz.ntmps48
  go_wp2
  exact bodyPost_ret (v := .tuple #[.agg #[.int .u64 0, .int .u64 n], .int .i64 0]) (by simp [results, Tryz.results48, go_sem]) rfl ⟨rfl, (by repeat (first | assumption | exact Below.refl _ _ | refine Below.setCell ?_ (by first | omega | (simp; done) | (simp; omega)) _ | refine below_drewN ?_ _ | refine Below.drew ?_ | refine Below.alloc ?_ (by first | omega | (simp; done) | (simp; omega)) _ | refine Below.trans ?_ (Below.mono (by assumption) (by first | omega | (simp; done) | (simp; omega)))))⟩

end WideR
end Go.Proofs.YtpambhlhkmkagaaGreatDoor

namespace Go.Proofs.YtpambhlhkmkagaaGreatDoor
open Go.RowKit Go.Shelf
namespace WideS
open WideA WideB WideR WideI WideF WideG

def Mid (w : World) (A : Int) (wr : World) : Prop :=
  wr.heap[w.heap.size]? = some (.cells #[.int .u64 0, .int .u64 0] 29 (0, 0)) ∧ wr.heap[w.heap.size + 1]? = some (.cells #[.int .u64 (A / 18446744073709551616), .int .u64 (A % 18446744073709551616)] 29 (0, 0)) ∧ Below w.heap.size w wr ∧ w.heap.size + 1 + 1 ≤ wr.heap.size
theorem mid_below {w wr w1 : World} {A : Int} (h : Mid w A wr) (hb : Below wr.heap.size wr w1) : Mid w A w1 := by
  obtain ⟨h1, h2, h3, h4⟩ := h
  exact ⟨(hb.block _ (by omega)).trans h1, (hb.block _ (by omega)).trans h2, h3.trans (hb.mono h3.size), Nat.le_trans h4 hb.size⟩
theorem mid_put {w w1 : World} {A C : Int} (h : Mid w A w1) : Mid w C ((w1.setCell ⟨w.heap.size + 1, 0, none⟩ (.int .u64 (C / 18446744073709551616))).setCell ⟨w.heap.size + 1, 1, none⟩ (.int .u64 (C % 18446744073709551616))) := by
  obtain ⟨g1, g2, g3, g4⟩ := h
  refine ⟨?_, two_put _ _ g2, (g3.setCell (p := ⟨w.heap.size + 1, 0, none⟩) (by show w.heap.size ≤ w.heap.size + 1; omega) _).setCell (p := ⟨w.heap.size + 1, 1, none⟩) (by show w.heap.size ≤ w.heap.size + 1; omega) _, by simpa using g4⟩
  rw [Below.heap_setCell _ _ _ _ (by show w.heap.size ≠ w.heap.size + 1; omega), Below.heap_setCell _ _ _ _ (by show w.heap.size ≠ w.heap.size + 1; omega)]
  exact g1

set_option maxHeartbeats 4000000 in
theorem rsum_any (xs : List Int) (a : Option Addr) (b off n cap : Nat) (w : World) (hn : n = xs.length) (hn63 : n ≤ 9223372036854775807)
    (hw : ∀ k, 0 ≤ xs.getD k 0 → xs.getD k 0 ≤ 9223372036854775807)
    (ha : n = 0 ∨ a = some ⟨b, off, none⟩) (hcell : ∀ k, k < n → w.cell? ⟨b, off + k, none⟩ = some (.int .i64 (xs.getD k 0))) (hb : n = 0 ∨ b < w.heap.size) :
    Calls Tryz.prog 23 #[.slice a n cap] w fun e w' => ∃ V, e = .returned V ∧ sumRes xs V ∧ Below w.heap.size w w' := by
  have HC := hide hcell
  have HBB := hide hb
  clear hb
  have HA := hide ha
  have HN := hide hn
  have HW := hide hw
  have hstart : Mid w (sumTo xs 0) ((w.alloc (.cells #[.int .u64 0, .int .u64 0] 29)).alloc (.cells #[.int .u64 0, .int .u64 0] 29)) := by
    have h2 := World.alloc_heap_new (w.alloc (.cells #[.int .u64 0, .int .u64 0] 29)) (.cells #[.int .u64 0, .int .u64 0] 29)
    have h1 := World.alloc_heap_new w (.cells #[.int .u64 0, .int .u64 0] 29)
    simp only [World.size_alloc] at h1 h2
    refine ⟨?_, h2, (by repeat (first | assumption | exact Below.refl _ _ | refine Below.setCell ?_ (by first | omega | (simp; done) | (simp; omega)) _ | refine below_drewN ?_ _ | refine Below.drew ?_ | refine Below.alloc ?_ (by first | omega | (simp; done) | (simp; omega)) _ | refine Below.trans ?_ (Below.mono (by assumption) (by first | omega | (simp; done) | (simp; omega))))), by simp⟩
    rw [Below.heap_alloc _ _ _ (by simp)]
    exact h1
  have HS := hide hstart
  clear hcell ha hn hstart hw
  go_enter Tryz.func23, Tryz.ntmps23
  go_wp2
  go_loopw [5] (fun v wr => ∃ k : Nat, k ≤ n ∧ Hid (∀ j, j < k → 0 ≤ xs.getD j 0) ∧ v = .int .i64 k ∧ Mid w (sumTo xs k) wr) (fun v _ => n - (intOf v).toNat)
  case atStart => exact ⟨0, by omega, fun j hj => absurd hj (by omega), rfl, HS.out⟩
  case round =>
    obtain ⟨k, hk, HP, rfl, hM⟩ := hrel
    have bd := sumTo_bd xs HW.out k HP.out
    have HM := hide hM
    obtain ⟨hr, hacc, hB, hz⟩ := hM
    obtain ⟨p0, p1, p2, p3⟩ := two_cells hacc
    obtain ⟨r0, r1, r2, r3⟩ := two_cells hr
    obtain ⟨A, hA⟩ : ∃ A, A = sumTo xs k := ⟨_, rfl⟩
    rw [← hA] at p0 p1 HM bd
    have EA := hide hA
    have BD := hide bd
    clear hA hacc hr bd
    by_cases hlt : k < n
    · have hcl : wr.cell? ⟨b, off + k, none⟩ = some (.int .i64 (xs.getD k 0)) := (hB.cell (p := ⟨b, off + k, none⟩) (by have := HBB.out; show b < w.heap.size; omega)).trans (HC.out k hlt)
      obtain rfl : a = some ⟨b, off, none⟩ := by rcases HA.out with h | h; omega; exact h
      have hw1 := HW.out k
      obtain ⟨x, hx⟩ : ∃ x, x = xs.getD k 0 := ⟨_, rfl⟩
      rw [← hx] at hcl hw1
      have HX := hide hx
      clear hx
      by_cases hneg : x < 0
      · have R := fun W => rof_neg x W hneg
        have HR := hide R
        have HG := hide hneg
        clear R hneg hw1
        go_wp2_with fail
        refine (HR.out _).mono ?_
        rintro e w1 ⟨rfl, hb1⟩
        have hM1 := mid_below HM.out hb1
        obtain ⟨hr, hacc, hB1, hz1⟩ := hM1
        clear p0 p1 p2 p3 r0 r1 r2 r3 hcl hb1 hB hz
        obtain ⟨r0, r1, r2, r3⟩ := two_cells hr
        have y0 : w.heap.size < w1.heap.size := by omega
        have y1 : w.heap.size < w1.heap.size + 1 := by omega
        have y2 : ¬ w1.heap.size = w.heap.size := by omega
        have y3 : ¬ w.heap.size = w1.heap.size := by omega
        clear hr hacc
        go_wp2
        exact bodyPost_ret (v := .tuple #[.agg #[.int .u64 0, .int .u64 0], .int .i64 3]) (by simp [results, Tryz.results23, go_sem, r0, r1, y0]) rfl ⟨_, rfl, .inr ⟨⟨k, by rw [← HN.out]; exact hlt, by rw [← HX.out]; exact HG.out⟩, rfl⟩, (by repeat (first | assumption | exact Below.refl _ _ | refine Below.setCell ?_ (by first | omega | (simp; done) | (simp; omega)) _ | refine below_drewN ?_ _ | refine Below.drew ?_ | refine Below.alloc ?_ (by first | omega | (simp; done) | (simp; omega)) _ | refine Below.trans ?_ (Below.mono (by assumption) (by first | omega | (simp; done) | (simp; omega)))))⟩
      · have hx0 : 0 ≤ x := by omega
        have hx1 := hw1 hx0
        have bd := BD.out
        have R := fun W => rof_pos x W hx0 hx1
        have S := fun W => rPlus (A / 18446744073709551616) (A % 18446744073709551616) 0 x W (by omega) (by omega) (by omega) (by omega) (by decide) (by decide) hx0 (by omega)
        rw [show A / 18446744073709551616 * 18446744073709551616 + A % 18446744073709551616 + (0 * 18446744073709551616 + x) = A + x by omega, wRes_ok (by omega) (by omega)] at S
        have HR := hide R
        have HSm := hide S
        have HP2 : Hid (∀ j, j < k + 1 → 0 ≤ xs.getD j 0) := hide fun j hj => by
          by_cases hjk : j < k
          · exact HP.out j hjk
          · obtain rfl : j = k := by omega
            rw [← HX.out]; exact hx0
        have EA2 : Hid (sumTo xs (k + 1) = A + x) := hide (by show sumTo xs k + xs.getD k 0 = _; rw [← EA.out, ← HX.out])
        clear R S hw1 hneg hx0 hx1 bd
        go_wp2_with fail
        refine (HR.out _).mono ?_
        rintro e w1 ⟨rfl, hb1⟩
        have hM1 := mid_below HM.out hb1
        have HM1 := hide hM1
        obtain ⟨hr, hacc, hB1, hz1⟩ := hM1
        clear p0 p1 p2 p3 r0 r1 r2 r3 hcl hb1 hB hz
        obtain ⟨p0, p1, p2, p3⟩ := two_cells hacc
        have y0 : w.heap.size + 1 < w1.heap.size := by omega
        have y1 : w.heap.size + 1 < w1.heap.size + 1 := by omega
        have y2 : ¬ w1.heap.size = w.heap.size + 1 := by omega
        have y3 : ¬ w.heap.size + 1 = w1.heap.size := by omega
        clear hr hacc
        go_wp2_with fail
        refine (HSm.out _).mono ?_
        rintro e w2 ⟨rfl, hb2⟩
        have hM2 := mid_below (mid_below HM1.out ((Below.refl _ _).alloc (Nat.le_refl _) (.cells #[.int .u64 0, .int .u64 x] 29))) hb2
        have HM2 := hide hM2
        obtain ⟨hr, hacc, hB2, hz2⟩ := hM2
        clear p0 p1 p2 p3 hb2 y0 y1 y2 y3 hB1 hz1
        obtain ⟨p0, p1, p2, p3⟩ := two_cells hacc
        clear hr hacc
        go_wp2
        go_roundw
        case rel => exact ⟨k + 1, by omega, HP2, by go_num, by rw [EA2.out]; exact mid_put HM2.out⟩
        case measure => simp [intOf]; omega
    · obtain rfl : k = n := by omega
      go_wp2
      exact bodyPost_ret (v := .tuple #[.agg #[.int .u64 (A / 18446744073709551616), .int .u64 (A % 18446744073709551616)], .int .i64 0]) (by simp [results, Tryz.results23, go_sem, r0, r1]) rfl ⟨_, rfl, .inl ⟨by rw [← HN.out]; exact HP.out, by rw [← HN.out, ← EA.out]⟩, (by repeat (first | assumption | exact Below.refl _ _ | refine Below.setCell ?_ (by first | omega | (simp; done) | (simp; omega)) _ | refine below_drewN ?_ _ | refine Below.drew ?_ | refine Below.alloc ?_ (by first | omega | (simp; done) | (simp; omega)) _ | refine Below.trans ?_ (Below.mono (by assumption) (by first | omega | (simp; done) | (simp; omega)))))⟩
end WideS
end Go.Proofs.YtpambhlhkmkagaaGreatDoor

namespace Go.Proofs.YtpambhlhkmkagaaGreatDoor
namespace ValI
open Go.RowKit
open BlkM WirM WirS WirA WirB ValA ValB ValC ValD ValP
open WideG (sumTo sumRes)

theorem mkI (a : Operand → Value) (o : Oper) (x y : Operand) (n : Nat) (ho : o.op = Op.makeSlice 53 x y) (hx : a x = .int .i64 (n : Int)) (hy : a y = .int .i64 (n : Int)) (hn : n ≤ 1000000) (W : World) :
    (execOp a o).run Tryz.prog W = .ok (.value (.slice (some ⟨W.heap.size, 0, none⟩) n n)) (W.alloc (.cells (List.replicate n (.int .i64 0)).toArray 3)) := by
  obtain ⟨i0, hi, hz0, hz1, hz2⟩ := info_parts (show (Tryz.prog.info? 3).map (fun i => (i.zero, i.size, i.bytes)) = some (some (.int .i64 0), 1, 8) by kernel_rfl)
  have hr := run_make (P := Tryz.prog) W 53 3 i0 _ Tryz.underlying53 hi hz0 .i64 .i64 (n : Int) (n : Int) (by omega) (Int.le_refl _) (by rw [hz2]; omega) (by omega)
  simp only [Int.toNat_natCast, hz1, Nat.mul_one] at hr
  have hm : madeCells (Value.int .i64 0).cells n = (List.replicate n (Value.int .i64 0)).toArray := by
    apply Array.ext'
    exact toList_madeCells_one _ n
  rw [hm] at hr
  unfold execOp
  rw [ho]
  simp only [hx, hy]
  simp [hr]
/-- The sum of all power. -/
def sumP (vs : List Vd) : Int := sumTo (vs.map Vd.p) vs.length
def tell (t e : Int) : Value := .tuple #[.agg #[.int .u64 (t / 18446744073709551616), .int .u64 (t % 18446744073709551616)], .int .i64 e]
set_option maxRecDepth 10000 in
set_option maxHeartbeats 2000000 in
theorem total_bad (w : World) (a : Option Addr) (n c : Nat) (vs : List Vd) (h : VIn w a n c vs) (hc : chk vs ≠ 0) :
    Calls Tryz.prog 6 #[.slice a n c] w fun e w' => e = .returned (.tuple #[.agg #[.int .u64 0, .int .u64 0], .int .i64 (chk vs)]) ∧ Below w.heap.size w w' := by
  obtain ⟨W0, e0⟩ : ∃ X, X = w.alloc (.cells #[.int .u64 0, .int .u64 0] 29) := ⟨_, rfl⟩
  have hA : At W0 w.heap.size 29 [.int .u64 0, .int .u64 0] := by rw [e0]; exact At.new w _ _
  have hB : Below w.heap.size w W0 := by rw [e0]; exact Below.alloc (Below.refl _ _) (Nat.le_refl _) _
  have HC := WirS.hide (check_any W0 a n c vs (h.below hB))
  generalize chk vs = cd at *
  have hn0 : (cd == 0) = false := by simpa using hc
  have hn1 : (cd != 0) = true := by simpa using hc
  have HA := WirS.hide hA
  have HB := WirS.hide hB
  have E0 := WirS.hide e0
  clear h e0 hA hB hc
  go_enter Tryz.func6, Tryz.ntmps6
  go_upto_region 1 with fail
  rw [← E0.out]
  go_upto_region 2 with ((go_at_call 15; refine (HC.out).mono ?_; rintro e u ⟨rfl, hb⟩; have HU := WirS.hide hb; clear hb))
  have hu := HA.out.below HU.out HA.out.lt
  have c0 : u.cell? ⟨w.heap.size, 0, none⟩ = some (.int .u64 0) := hu.cell 0
  have c1 : u.cell? ⟨w.heap.size, 1, none⟩ = some (.int .u64 0) := hu.cell 1
  have f0 := hu.frozen 0
  have f1 := hu.frozen 1
  have HBU := WirS.hide (HB.out.trans (HU.out.mono HB.out.size))
  clear hu
  go_wp2_with fail
  exact bodyPost_ret (v := .tuple #[.agg #[.int .u64 0, .int .u64 0], .int .i64 cd]) (by simp [results, Tryz.results6, go_sem, c0, c1]) rfl ⟨rfl, (HBU.out.setCell (Nat.le_refl _) _).setCell (Nat.le_refl _) _⟩
def MidT (w w1 : World) (vs : List Vd) (n : Nat) (i : Value) (U : World) : Prop :=
  ∃ (k : Nat) (cs : List Value), k ≤ n ∧ i = .int .i64 (k : Int) ∧ At U w1.heap.size 3 cs ∧ cs.length = n ∧ (∀ j x, j < k → vs[j]? = some x → cs[j]? = some (.int .i64 x.p)) ∧ At U w.heap.size 29 [.int .u64 0, .int .u64 0] ∧ Below w.heap.size w U
set_option maxRecDepth 10000 in
set_option maxHeartbeats 4000000 in
theorem total_ok (w : World) (a : Option Addr) (n c : Nat) (vs : List Vd) (h : VIn w a n c vs) (hc : chk vs = 0) :
    Calls Tryz.prog 6 #[.slice a n c] w fun e w' => e = .returned (tell (sumP vs) 0) ∧ Below w.heap.size w w' := by
  obtain ⟨v0, v64, hup, hpw⟩ := (chk_up vs).1 hc
  have hlen := h.len
  obtain ⟨W0, e0⟩ : ∃ X, X = w.alloc (.cells #[.int .u64 0, .int .u64 0] 29) := ⟨_, rfl⟩
  have hA : At W0 w.heap.size 29 [.int .u64 0, .int .u64 0] := by rw [e0]; exact At.new w _ _
  have hB : Below w.heap.size w W0 := by rw [e0]; exact Below.alloc (Below.refl _ _) (Nat.le_refl _) _
  have HC := WirS.hide (check_any W0 a n c vs (h.below hB))
  rw [hc] at HC
  have hn64 : n ≤ 64 := by omega
  have HA := WirS.hide hA
  have HB := WirS.hide hB
  have E0 := WirS.hide e0
  have H := WirS.hide h
  have HL := WirS.hide hlen
  have HP := WirS.hide hpw
  unfold tell
  obtain ⟨hi, ehi⟩ : ∃ x, x = sumP vs / 18446744073709551616 := ⟨_, rfl⟩
  obtain ⟨lo, elo⟩ : ∃ x, x = sumP vs % 18446744073709551616 := ⟨_, rfl⟩
  rw [← ehi, ← elo]
  have EHI := WirS.hide ehi
  have ELO := WirS.hide elo
  clear h e0 hA hB hc v0 v64 hup hpw hlen ehi elo
  go_enter Tryz.func6, Tryz.ntmps6
  go_upto_region 1 with fail
  rw [← E0.out]
  go_upto_region 4 with ((go_at_call 15; refine (HC.out).mono ?_; rintro e w1 ⟨rfl, hb⟩; have HU := WirS.hide hb; clear hb))
  have HT := WirS.hide (HA.out.below HU.out HA.out.lt)
  have HB1 := WirS.hide (HB.out.trans (HU.out.mono HB.out.size))
  have hXS : w.heap.size ≠ w1.heap.size := by have := HT.out.lt; omega
  refine wp_region_lit ?_
  refine sV (.slice a n c) (w1) (by kernel_rfl) (by kernel_rfl) ?_
  simp only [Act.put, List.setIfInBounds_toArray, List.set_cons_succ, List.set_cons_zero]
  refine sV (.int .i64 (n : Int)) (w1) (by kernel_rfl) (by kernel_rfl) ?_
  simp only [Act.put, List.setIfInBounds_toArray, List.set_cons_succ, List.set_cons_zero]
  refine sV (.slice (some ⟨w1.heap.size, 0, none⟩) n n) (w1.alloc (.cells (List.replicate n (.int .i64 0)).toArray 3)) (by kernel_rfl) (mkI _ _ _ _ n (by rfl) (by kernel_rfl) (by kernel_rfl) (by omega) w1) ?_
  simp only [Act.put, List.setIfInBounds_toArray, List.set_cons_succ, List.set_cons_zero]
  have HST := WirS.hide (show MidT w w1 vs n (.int .i64 0) (w1.alloc (.cells (List.replicate n (.int .i64 0)).toArray 3)) from
    ⟨0, _, Nat.zero_le _, rfl, At.new w1 _ _, List.length_replicate, fun j x hj _ => absurd hj (by omega), HT.out.alloc _, HB1.out.alloc HB1.out.size _⟩)
  clear HT
  go_wp2_with fail
  go_loopw [19] (fun i wr => MidT w w1 vs n i wr) (fun i _ => n - (intOf i).toNat)
  case atStart => exact HST.out
  case round =>
    clear HST
    obtain ⟨k, cs, hk, rfl, hX, hcl, hcs, hS, hBr⟩ := hrel
    by_cases hlt : k < n
    · obtain ⟨x, B, o, hx, hmem, rfl, hBl, hr⟩ := (H.out.below hBr).cell hlt
      have r0 : wr.cell? ⟨B, o + k * 5, none⟩ = some (.int .u8 x.a) := hr 0 _ rfl
      have r1 : wr.cell? ⟨B, o + k * 5 + 1, none⟩ = some (.int .u8 x.b) := hr 1 _ rfl
      have r2 : wr.cell? ⟨B, o + k * 5 + 2, none⟩ = some (.int .u8 x.c) := hr 2 _ rfl
      have r3 : wr.cell? ⟨B, o + k * 5 + 3, none⟩ = some (.int .u8 x.d) := hr 3 _ rfl
      have r4 : wr.cell? ⟨B, o + k * 5 + 4, none⟩ = some (.int .i64 x.p) := hr 4 _ rfl
      have hkl : (k : Int) < (n : Int) := by omega
      obtain ⟨y, hy⟩ : ∃ y, cs[k]? = some y := ⟨_, List.getElem?_eq_getElem (by omega)⟩
      have ck : wr.cell? ⟨w1.heap.size, k, none⟩ = some y := (hX.cell k).trans hy
      have fk := hX.frozen k
      have hXl := hX.lt
      have HBr := WirS.hide hBr
      have HX := WirS.hide hX
      have HS := WirS.hide hS
      have HCS := WirS.hide hcs
      have HCL := WirS.hide hcl
      have HXX := WirS.hide hx
      clear hr hx hmem hBr hX hS hcs hcl hy
      go_wp2_with fail
      go_roundw
      case rel =>
        refine ⟨k + 1, cs.set k (.int .i64 x.p), by omega, by go_num, (HX.out.setCell k _).alloc _, by rw [List.length_set]; exact HCL.out, fun j z hj hz => ?_, (HS.out.setCell_other hXS _ _).alloc _, (HBr.out.setCell (p := ⟨w1.heap.size, k, none⟩) HB1.out.size _).alloc (by simpa using HBr.out.size) _⟩
        have := HCL.out
        by_cases e : j = k
        · subst e
          rw [HXX.out] at hz
          cases hz
          rw [List.getElem?_set_self (by omega)]
        · rw [List.getElem?_set_ne (by omega)]
          exact HCS.out j z (by omega) hz
      case measure => simp [intOf]; omega
    · obtain rfl : k = n := by omega
      have hlen := HL.out
      have hp : ∀ j, (vs.map Vd.p).getD j 0 ≤ 4611686018427387904 ∧ 0 ≤ (vs.map Vd.p).getD j 0 := fun j => by
        by_cases hj : j < vs.length
        · have := HP.out (vs[j]'hj) (List.getElem_mem _)
          rw [List.getD_eq_getElem?_getD, List.getElem?_map, List.getElem?_eq_getElem hj]
          simp
          omega
        · rw [List.getD_eq_getElem?_getD, List.getElem?_eq_none (by simp; omega)]
          simp
      have hsum := WideG.sum_any (vs.map Vd.p) (some ⟨w1.heap.size, 0, none⟩) w1.heap.size 0 k k wr (by simp [hlen]) (by omega) (fun j _ => by have := hp j; omega) (.inr rfl) (fun j hj => by
        have hx : vs[j]? = some (vs[j]'(by omega)) := List.getElem?_eq_getElem _
        rw [Nat.zero_add, hX.cell, hcs j _ hj hx, List.getD_eq_getElem?_getD, List.getElem?_map, hx]
        rfl) hX.lt
      have HSum := WirS.hide (show Calls Tryz.prog 22 #[.slice (some ⟨w1.heap.size, 0, none⟩) k k] wr (fun e w' => e = .returned (.tuple #[.agg #[.int .u64 (sumP vs / 18446744073709551616), .int .u64 (sumP vs % 18446744073709551616)], .int .i64 0]) ∧ Below wr.heap.size wr w') from hsum.mono (fun e w' ⟨V, h1, h2, h3⟩ => by
        rcases h2 with ⟨_, h2⟩ | ⟨⟨j, _, h2⟩, _⟩
        · refine ⟨by rw [h1, h2]; unfold sumP; rw [List.length_map], h3⟩
        · have := hp j
          omega))
      rw [← EHI.out, ← ELO.out] at HSum
      have HS := WirS.hide hS
      have HBr := WirS.hide hBr
      clear hp hsum hX hS hcs hcl hBr hlen
      go_upto_region 10 with fail
      refine wp_region_lit ?_
      refine sV (.slice (some ⟨w1.heap.size, 0, none⟩) k k) (wr) (by kernel_rfl) (by kernel_rfl) ?_
      simp only [Act.put, List.setIfInBounds_toArray, List.set_cons_succ, List.set_cons_zero]
      refine sC (by kernel_rfl) (by kernel_rfl) HSum.out ?_
      rintro w2 hb
      simp only [Act.put, List.setIfInBounds_toArray, List.set_cons_succ, List.set_cons_zero]
      have hu := HS.out.below hb HS.out.lt
      have c0 : w2.cell? ⟨w.heap.size, 0, none⟩ = some (.int .u64 0) := hu.cell 0
      have c1 : w2.cell? ⟨w.heap.size, 1, none⟩ = some (.int .u64 0) := hu.cell 1
      have f0 := hu.frozen 0
      have f1 := hu.frozen 1
      have hlt2 := hu.lt
      have HB2 := WirS.hide (HBr.out.trans (hb.mono HBr.out.size))
      clear hu hb
      go_wp2_with fail
      exact bodyPost_ret (v := .tuple #[.agg #[.int .u64 hi, .int .u64 lo], .int .i64 0]) (by simp [results, Tryz.results6, go_sem, c0, c1]) rfl ⟨rfl, (HB2.out.setCell (Nat.le_refl _) _).setCell (Nat.le_refl _) _⟩
end ValI
end Go.Proofs.YtpambhlhkmkagaaGreatDoor

