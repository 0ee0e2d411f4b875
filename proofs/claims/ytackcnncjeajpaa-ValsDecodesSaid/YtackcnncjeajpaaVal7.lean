/-
  ValRA, ValRB, ValRC, ValRD, ValRE, ValCH, in one text.
-/
import Derived.Test.YtackcnncjeajpaaVal8
import Derived.Test.YtackcnncjeajpaaVal1
namespace Go.Proofs.Ytackcnncjeajpaa
namespace ValRA
open Go.RowKit
open BlkM WirM WirS ValA ValB ValC ValD ValE ValH ValP ValQ

def kd (x : Vd) (k : Nat) : Int := x.key.getD k 0
theorem kd_cell {W : World} {X : Nat} {x : Vd} (h : At W X 36 (kcl x)) (k : Nat) (hk : k < 4) : W.cell? ⟨X, k, none⟩ = some (.int .u8 (kd x k)) := by
  match k, hk with
  | 0, _ => exact h.cell 0
  | 1, _ => exact h.cell 1
  | 2, _ => exact h.cell 2
  | 3, _ => exact h.cell 3
  | n + 4, hk => exact absurd hk (by omega)
theorem rk_ne {x y : Vd} (hx : x.ok) (hy : y.ok) (k : Nat) (hk : k < 4) (h : ∀ j, j < k → kd x j = kd y j) (hne : kd x k ≠ kd y k) : decide (kd x k < kd y k) = decide (x.rk < y.rk) := by
  obtain ⟨a, b, c, d, _⟩ := hx
  obtain ⟨a', b', c', d', _⟩ := hy
  rw [decide_eq_decide]
  match k, hk with
  | 0, _ =>
    have h0 : x.a ≠ y.a := hne
    show x.a < y.a ↔ _
    unfold Vd.rk
    omega
  | 1, _ =>
    have e0 : x.a = y.a := h 0 (by omega)
    have h0 : x.b ≠ y.b := hne
    show x.b < y.b ↔ _
    unfold Vd.rk
    omega
  | 2, _ =>
    have e0 : x.a = y.a := h 0 (by omega)
    have e1 : x.b = y.b := h 1 (by omega)
    have h0 : x.c ≠ y.c := hne
    show x.c < y.c ↔ _
    unfold Vd.rk
    omega
  | 3, _ =>
    have e0 : x.a = y.a := h 0 (by omega)
    have e1 : x.b = y.b := h 1 (by omega)
    have e2 : x.c = y.c := h 2 (by omega)
    have h0 : x.d ≠ y.d := hne
    show x.d < y.d ↔ _
    unfold Vd.rk
    omega
  | n + 4, hk => exact absurd hk (by omega)
theorem rk_eq {x y : Vd} (h : ∀ j, j < 4 → kd x j = kd y j) : decide (x.rk < y.rk) = false := by
  have e0 : x.a = y.a := h 0 (by omega)
  have e1 : x.b = y.b := h 1 (by omega)
  have e2 : x.c = y.c := h 2 (by omega)
  have e3 : x.d = y.d := h 3 (by omega)
  rw [decide_eq_false_iff_not]
  unfold Vd.rk
  omega
def MidLs (w : World) (x y : Vd) (i : Value) (U : World) : Prop :=
  ∃ k : Nat, k ≤ 4 ∧ i = .int .i64 (k : Int) ∧ (∀ j, j < k → kd x j = kd y j) ∧ At U w.heap.size 36 (kcl x) ∧ At U (w.heap.size + 1) 36 (kcl y) ∧ Below w.heap.size w U
set_option maxRecDepth 10000 in
set_option maxHeartbeats 2000000 in
theorem less_any (w : World) (x y : Vd) (hx : x.ok) (hy : y.ok) :
    Calls Try.prog 147 #[.agg #[.int .u8 x.a, .int .u8 x.b, .int .u8 x.c, .int .u8 x.d], .agg #[.int .u8 y.a, .int .u8 y.b, .int .u8 y.c, .int .u8 y.d]] w fun e w' => e = .returned (.bool (decide (x.rk < y.rk))) ∧ Below w.heap.size w w' := by
  obtain ⟨W0, eW0⟩ : ∃ X, X = (w.alloc (.cells #[.int .u8 x.a, .int .u8 x.b, .int .u8 x.c, .int .u8 x.d] 36)).alloc (.cells #[.int .u8 y.a, .int .u8 y.b, .int .u8 y.c, .int .u8 y.d] 36) := ⟨_, rfl⟩
  have hA : At W0 w.heap.size 36 (kcl x) := by rw [eW0]; exact At.alloc (At.new w _ (kcl x)) _
  have hB : At W0 (w.heap.size + 1) 36 (kcl y) := by
    rw [eW0]
    have := At.new (w.alloc (.cells #[.int .u8 x.a, .int .u8 x.b, .int .u8 x.c, .int .u8 x.d] 36)) 36 (kcl y)
    rw [World.size_alloc] at this
    exact this
  have hb0 : Below w.heap.size w W0 := by rw [eW0]; exact Below.alloc (Below.alloc (Below.refl _ _) (Nat.le_refl _) _) (by simp) _
  have HST := WirS.hide (show MidLs w x y (.int .i64 0) W0 from ⟨0, by omega, rfl, fun j hj => by omega, hA, hB, hb0⟩)
  have E0 := WirS.hide eW0
  have HX := WirS.hide (And.intro hx hy)
  clear hA hB hb0 eW0
  go_enter Try.func147, Try.ntmps147
  go_upto_region 2 with fail
  rw [← E0.out]
  clear E0
  go_loopw [5] (fun i wr => MidLs w x y i wr) (fun i _ => 4 - (intOf i).toNat)
  case atStart => exact HST.out
  case round =>
    clear HST
    obtain ⟨k, hk, rfl, hE, hA, hB, hb⟩ := hrel
    have HB := WirS.hide hb
    by_cases hlt : k < 4
    · have c0 := kd_cell hA k hlt
      have c1 := kd_cell hB k hlt
      have hkl : (k : Int) < 4 := by omega
      have HA2 := WirS.hide hA
      have HB2 := WirS.hide hB
      by_cases hq : kd x k = kd y k
      · have HE := WirS.hide (show ∀ j, j < k + 1 → kd x j = kd y j from fun j hj => by
          rcases Nat.lt_or_ge j k with h | h
          · exact hE j h
          · obtain rfl : j = k := by omega
            exact hq)
        rw [← hq] at c1
        generalize kd x k = p at c0 c1
        clear hE hA hB hb hq
        go_wp2_with fail
        go_quiet (fail)
        go_wp2_with fail
        go_roundw
        case rel => exact ⟨k + 1, by omega, by go_num, HE.out, HA2.out.below (below_drewN (Below.refl _ _) _) HA2.out.lt, HB2.out.below (below_drewN (Below.refl _ _) _) HB2.out.lt, HB.out.trans ((below_drewN (Below.refl _ _) _).mono HB.out.size)⟩
        case measure => simp [intOf]; omega
      · have HD := WirS.hide (rk_ne HX.out.1 HX.out.2 k hlt hE hq)
        have hq1 : (kd x k == kd y k) = false := by simpa using hq
        have hq2 : (kd x k != kd y k) = true := by simpa using hq
        clear hE hA hB hb hq
        generalize kd x k = p at *
        generalize kd y k = q at *
        go_wp2_with fail
        go_quiet (fail)
        go_wp2_with fail
        go_quiet (fail)
        go_wp2_with fail
        go_ret
        exact ⟨by rw [← HD.out]; rfl, HB.out.trans ((below_drewN (below_drewN (Below.refl _ _) _) _).mono HB.out.size)⟩
    · obtain rfl : k = 4 := by omega
      have HR := WirS.hide (rk_eq hE)
      clear hE hA hB hb
      go_wp2_with fail
      go_ret
      exact ⟨by rw [HR.out]; rfl, HB.out⟩
def MidFr (w : World) (vs : List Vd) (kv : Vd) (n : Nat) (i : Value) (U : World) : Prop :=
  ∃ k : Nat, k ≤ n ∧ i = .int .i64 (k : Int) ∧ ixK kv.key vs 0 = ixK kv.key (vs.drop k) k ∧ At U w.heap.size 36 (kcl kv) ∧ Below w.heap.size w U
set_option maxRecDepth 10000 in
set_option maxHeartbeats 2000000 in
theorem rfind_any (w : World) (a : Option Addr) (n c : Nat) (vs : List Vd) (kv : Vd) (h : VIn w a n c vs) :
    Calls Try.prog 146 #[.slice a n c, .agg #[.int .u8 kv.a, .int .u8 kv.b, .int .u8 kv.c, .int .u8 kv.d]] w fun e w' => e = .returned (.tuple #[.int .i64 (if 0 ≤ ixK kv.key vs 0 then ixK kv.key vs 0 else 0), .bool (decide (0 ≤ ixK kv.key vs 0))]) ∧ Below w.heap.size w w' := by
  have hns : n ≤ 9223372036854775807 := Nat.le_trans h.cap h.small
  obtain ⟨W0, e0⟩ : ∃ X, X = w.alloc (.cells #[.int .u8 kv.a, .int .u8 kv.b, .int .u8 kv.c, .int .u8 kv.d] 36) := ⟨_, rfl⟩
  have hA : At W0 w.heap.size 36 (kcl kv) := by rw [e0]; exact At.new w _ _
  have hb0 : Below w.heap.size w W0 := by rw [e0]; exact Below.alloc (Below.refl _ _) (Nat.le_refl _) _
  have HST := WirS.hide (show MidFr w vs kv n (.int .i64 0) W0 from ⟨0, Nat.zero_le _, rfl, rfl, hA, hb0⟩)
  have E0 := WirS.hide e0
  have HL := WirS.hide h.len
  have H := WirS.hide h
  clear h e0 hA hb0
  generalize hr1 : (if 0 ≤ ixK kv.key vs 0 then ixK kv.key vs 0 else 0) = r1
  generalize hr2 : decide (0 ≤ ixK kv.key vs 0) = r2
  have HR1 := WirS.hide hr1
  have HR2 := WirS.hide hr2
  clear hr1 hr2
  go_enter Try.func146, Try.ntmps146
  go_upto_region 2 with fail
  rw [← E0.out]
  clear E0
  go_loopw [6] (fun i wr => MidFr w vs kv n i wr) (fun i _ => n - (intOf i).toNat)
  case atStart => exact HST.out
  case round =>
    clear HST
    obtain ⟨k, hk, rfl, hE, hA, hB⟩ := hrel
    by_cases hlt : k < n
    · obtain ⟨x, B, o, hx, hmem, rfl, hBl, hr⟩ := (H.out.below hB).cell hlt
      have r0 : wr.cell? ⟨B, o + k * 5, none⟩ = some (.int .u8 x.a) := hr 0 _ rfl
      have r1 : wr.cell? ⟨B, o + k * 5 + 1, none⟩ = some (.int .u8 x.b) := hr 1 _ rfl
      have r2 : wr.cell? ⟨B, o + k * 5 + 2, none⟩ = some (.int .u8 x.c) := hr 2 _ rfl
      have r3 : wr.cell? ⟨B, o + k * 5 + 3, none⟩ = some (.int .u8 x.d) := hr 3 _ rfl
      have r4 : wr.cell? ⟨B, o + k * 5 + 4, none⟩ = some (.int .i64 x.p) := hr 4 _ rfl
      have c0 : wr.cell? ⟨w.heap.size, 0, none⟩ = some (.int .u8 kv.a) := hA.cell 0
      have c1 : wr.cell? ⟨w.heap.size, 1, none⟩ = some (.int .u8 kv.b) := hA.cell 1
      have c2 : wr.cell? ⟨w.heap.size, 2, none⟩ = some (.int .u8 kv.c) := hA.cell 2
      have c3 : wr.cell? ⟨w.heap.size, 3, none⟩ = some (.int .u8 kv.d) := hA.cell 3
      have hkl : (k : Int) < (n : Int) := by omega
      rw [drop_get hx, ixK] at hE
      have HB := WirS.hide hB
      have HA := WirS.hide hA
      have hq := eqK4 x kv
      clear hr hx hB hmem hA
      by_cases hkk : x.key = kv.key
      · rw [if_pos hkk] at hE
        rw [decide_eq_true hkk] at hq
        have HE := WirS.hide hE
        have hk0 : (0 : Int) ≤ (k : Int) := by omega
        clear hE hkk
        go_wp2_with fail
        go_quiet (fail)
        go_wp2_with fail
        refine bodyPost_ret (v := .tuple #[.int .i64 (k : Int), .bool true]) (by simp [results, Try.results146, go_sem]) rfl ?_
        exact ⟨by rw [← HR1.out, ← HR2.out, HE.out, if_pos hk0, decide_eq_true hk0], HB.out.trans ((below_drewN (Below.refl _ _) _).mono HB.out.size)⟩
      · rw [if_neg hkk] at hE
        rw [decide_eq_false hkk] at hq
        have HE := WirS.hide hE
        clear hE hkk
        go_wp2_with fail
        go_quiet (fail)
        go_wp2_with fail
        go_roundw
        case rel => exact ⟨k + 1, by omega, by go_num, HE.out, HA.out.below (below_drewN (Below.refl _ _) _) HA.out.lt, HB.out.trans ((below_drewN (Below.refl _ _) _).mono HB.out.size)⟩
        case measure => simp [intOf]; omega
    · have hd : vs.drop k = [] := List.drop_eq_nil_of_le (by rw [HL.out]; omega)
      rw [hd, ixK] at hE
      have HE := WirS.hide hE
      have HB := WirS.hide hB
      have hkl : ¬ (k : Int) < (n : Int) := by omega
      clear hE hB hd hA
      go_wp2_with fail
      refine bodyPost_ret (v := .tuple #[.int .i64 0, .bool false]) (by simp [results, Try.results146, go_sem]) rfl ?_
      exact ⟨by rw [← HR1.out, ← HR2.out, HE.out]; rfl, HB.out⟩
end ValRA
end Go.Proofs.Ytackcnncjeajpaa

namespace Go.Proofs.Ytackcnncjeajpaa
namespace ValRB
open Go.RowKit
open BlkM WirM WirS ValA ValB ValC ValD ValE ValH ValP ValQ ValRA

def MidCr (w : World) (vs : List Vd) (n : Nat) (i : Value) (U : World) : Prop :=
  ∃ (k : Nat) (q : Option Vd), k ≤ n ∧ i = .int .i64 (k : Int) ∧ (k = 0 → q = none) ∧ (0 < k → q = vs[k - 1]?) ∧ rowE 1 none vs = rowE 1 q (vs.drop k) ∧ Below w.heap.size w U
set_option maxRecDepth 10000 in
set_option maxHeartbeats 4000000 in
theorem rcheck_any (w : World) (a : Option Addr) (n c : Nat) (vs : List Vd) (h : VIn w a n c vs) :
    Calls Try.prog 142 #[.slice a n c] w fun e w' => e = .returned (.int .i64 (chk vs)) ∧ Below w.heap.size w w' := by
  have hlen := h.len
  have H := WirS.hide h
  have HL := WirS.hide hlen
  by_cases h0 : n = 0
  · subst h0
    have hE : chk vs = 6 := by unfold chk; simp [hlen]
    rw [hE]
    clear h hlen hE
    go_enter Try.func142, Try.ntmps142
    go_wp2_with fail
    go_ret
    exact ⟨rfl, Below.refl _ _⟩
  have e1 : ((n : Int) == 0) = false := by simp; omega
  by_cases h64 : 64 < n
  · have hE : chk vs = 4 := by unfold chk; rw [hlen, if_neg h0, if_pos h64]
    rw [hE]
    have e2 : (64 : Int) < (n : Int) := by omega
    clear h hlen hE
    go_enter Try.func142, Try.ntmps142
    go_wp2_with fail
    go_ret
    exact ⟨rfl, Below.refl _ _⟩
  have hE : chk vs = rowE 1 none vs := by unfold chk; rw [hlen, if_neg h0, if_neg h64]
  rw [hE]
  obtain ⟨cd, hcd⟩ : ∃ cd, rowE 1 none vs = cd := ⟨_, rfl⟩
  rw [hcd]
  have HCD := WirS.hide hcd
  have e2 : ¬ (64 : Int) < (n : Int) := by omega
  have HST := WirS.hide (show MidCr w vs n (.int .i64 0) w from ⟨0, none, by omega, rfl, fun _ => rfl, fun h => absurd h (by omega), rfl, Below.refl _ _⟩)
  clear h hlen hE hcd
  go_enter Try.func142, Try.ntmps142
  go_wp2_with fail
  go_loopw [3] (fun i wr => MidCr w vs n i wr) (fun i _ => n - (intOf i).toNat)
  case atStart => exact HST.out
  case round =>
    clear HST
    obtain ⟨k, q, hk, rfl, hq0, hq1, hE, hB⟩ := hrel
    by_cases hlt : k < n
    · obtain ⟨x, B, o, hx, hmem, rfl, hBl, hr⟩ := (H.out.below hB).cell hlt
      have r0 : wr.cell? ⟨B, o + k * 5, none⟩ = some (.int .u8 x.a) := hr 0 _ rfl
      have r1 : wr.cell? ⟨B, o + k * 5 + 1, none⟩ = some (.int .u8 x.b) := hr 1 _ rfl
      have r2 : wr.cell? ⟨B, o + k * 5 + 2, none⟩ = some (.int .u8 x.c) := hr 2 _ rfl
      have r3 : wr.cell? ⟨B, o + k * 5 + 3, none⟩ = some (.int .u8 x.d) := hr 3 _ rfl
      have r4 : wr.cell? ⟨B, o + k * 5 + 4, none⟩ = some (.int .i64 x.p) := hr 4 _ rfl
      have hkl : (k : Int) < (n : Int) := by omega
      have hk63 : k ≤ 64 := by omega
      have HX := WirS.hide hx
      have HB := WirS.hide hB
      by_cases hk0 : k = 0
      · subst hk0
        obtain rfl : q = none := hq0 rfl
        rw [Nat.zero_mul, Nat.add_zero] at r4
        clear r0 r1 r2 r3
        have hlate : late none x = false := rfl
        by_cases hp1 : x.p < 1
        · have d1 : decide (x.p < 1) = true := by simpa using hp1
          have HE := WirS.hide (show rowE 1 none vs = 3 by rw [hE, drop_get hx, rowE, if_neg (by rw [nextE, hlate, if_neg (by simp), if_pos (.inl hp1)]; decide), nextE, hlate, if_neg (by simp), if_pos (.inl hp1)])
          clear hE hx hr hmem hB hq0 hq1 hlate
          go_wp2_with fail
          go_quiet (fail)
          go_wp2_with fail
          go_ret
          exact ⟨by rw [← HCD.out, HE.out]; rfl, HB.out.trans ((below_drewN (Below.refl _ _) _).mono HB.out.size)⟩
        · by_cases hp2 : 4611686018427387904 < x.p
          · have d1 : decide (x.p < 1) = false := by simpa using hp1
            have d2 : decide (4611686018427387904 < x.p) = true := by simpa using hp2
            have HE := WirS.hide (show rowE 1 none vs = 3 by rw [hE, drop_get hx, rowE, if_neg (by rw [nextE, hlate, if_neg (by simp), if_pos (.inr hp2)]; decide), nextE, hlate, if_neg (by simp), if_pos (.inr hp2)])
            clear hE hx hr hmem hB hq0 hq1 hlate
            go_wp2_with fail
            go_quiet (fail)
            go_wp2_with fail
            go_ret
            exact ⟨by rw [← HCD.out, HE.out]; rfl, HB.out.trans ((below_drewN (Below.refl _ _) _).mono HB.out.size)⟩
          · have d1 : decide (x.p < 1) = false := by simpa using hp1
            have d2 : decide (4611686018427387904 < x.p) = false := by simpa using hp2
            have HE := WirS.hide (show rowE 1 none vs = rowE 1 (some x) (vs.drop (0 + 1)) by rw [hE, drop_get hx, rowE, if_pos (by rw [nextE, hlate, if_neg (by simp), if_neg (by omega)])])
            clear hE hx hr hmem hB hq0 hq1 hlate
            go_wp2_with fail
            go_quiet (fail)
            go_wp2_with fail
            go_roundw
            case rel => exact ⟨0 + 1, some x, by omega, by first | rfl | go_num, fun h => absurd h (by omega), fun _ => by rw [Nat.add_sub_cancel]; exact HX.out.symm, HE.out, HB.out.trans ((below_drewN (Below.refl _ _) _).mono HB.out.size)⟩
            case measure => simp [intOf]; omega
      · obtain ⟨y, B', o', hy, hmemy, e, _, hs⟩ := (H.out.below hB).cell (i := k - 1) (by omega)
        cases e
        have hzz : decide ((0 : Int) < (k : Int)) = true := by simp; omega
        have hzn : 0 < k := by omega
        have hix : (0 : Int) ≤ (k : Int) - 1 := by omega
        have hkn : k - 1 < n := by omega
        have hkn1 : ((k - 1 : Nat) : Int) < (n : Int) := by omega
        have hk1 : (1 : Int) ≤ (k : Int) := by omega
        have hix2 : (k : Int) - 1 < (n : Int) := by omega
        have htn : ((k : Int) - 1).toNat = k - 1 := by omega
        have hwr : IntKind.i64.wrap ((k : Int) - 1) = (k : Int) - 1 := IntWalk.i64_in _ (by omega)
        obtain rfl : q = some y := by rw [hq1 (by omega), hy]
        have s0 : wr.cell? ⟨B, o + (k - 1) * 5, none⟩ = some (.int .u8 y.a) := hs 0 _ rfl
        have s1 : wr.cell? ⟨B, o + (k - 1) * 5 + 1, none⟩ = some (.int .u8 y.b) := hs 1 _ rfl
        have s2 : wr.cell? ⟨B, o + (k - 1) * 5 + 2, none⟩ = some (.int .u8 y.c) := hs 2 _ rfl
        have s3 : wr.cell? ⟨B, o + (k - 1) * 5 + 3, none⟩ = some (.int .u8 y.d) := hs 3 _ rfl
        have s4 : wr.cell? ⟨B, o + (k - 1) * 5 + 4, none⟩ = some (.int .i64 y.p) := hs 4 _ rfl
        have HLs := WirS.hide (fun U => less_any U y x (H.out.ok y hmemy) (H.out.ok x hmem))
        have HBL := WirS.hide hBl
        clear hs hy hmemy
        by_cases hl : y.rk < x.rk
        · have hlate : late (some y) x = false := by simp only [late, decide_eq_false_iff_not]; omega
          rw [decide_eq_true hl] at HLs
          by_cases hp1 : x.p < 1
          · have d1 : decide (x.p < 1) = true := by simpa using hp1
            have HE := WirS.hide (show rowE 1 none vs = 3 by rw [hE, drop_get hx, rowE, if_neg (by rw [nextE, hlate, if_neg (by simp), if_pos (.inl hp1)]; decide), nextE, hlate, if_neg (by simp), if_pos (.inl hp1)])
            clear hE hx hr hmem hB hq0 hq1 hlate
            go_upto_region 8 with fail
            go_region_held3 (fun w' => (w'.cell? ⟨B, o + (k - 1) * 5, none⟩ = some (.int .u8 y.a) ∧ w'.cell? ⟨B, o + (k - 1) * 5 + 1, none⟩ = some (.int .u8 y.b) ∧ w'.cell? ⟨B, o + (k - 1) * 5 + 2, none⟩ = some (.int .u8 y.c) ∧ w'.cell? ⟨B, o + (k - 1) * 5 + 3, none⟩ = some (.int .u8 y.d)) ∧ w'.cell? ⟨B, o + k * 5, none⟩ = some (.int .u8 x.a) ∧ w'.cell? ⟨B, o + k * 5 + 1, none⟩ = some (.int .u8 x.b) ∧ w'.cell? ⟨B, o + k * 5 + 2, none⟩ = some (.int .u8 x.c) ∧ w'.cell? ⟨B, o + k * 5 + 3, none⟩ = some (.int .u8 x.d)) (go_keep)
              (first | (go_at_call 147; refine (HLs.out _).mono ?_; rintro e w1 ⟨rfl, hb⟩; have hD1 : Below wr.heap.size wr w1 := (below_drewN (Below.refl _ _) 1).trans hb; have HD1 := WirS.hide hD1; have y0 := (hD1.cell (p := ⟨B, o + (k - 1) * 5, none⟩) HBL.out).trans s0; have y1 := (hD1.cell (p := ⟨B, o + (k - 1) * 5 + 1, none⟩) HBL.out).trans s1; have y2 := (hD1.cell (p := ⟨B, o + (k - 1) * 5 + 2, none⟩) HBL.out).trans s2; have y3 := (hD1.cell (p := ⟨B, o + (k - 1) * 5 + 3, none⟩) HBL.out).trans s3; have x0 := (hD1.cell (p := ⟨B, o + k * 5, none⟩) HBL.out).trans r0; have x1 := (hD1.cell (p := ⟨B, o + k * 5 + 1, none⟩) HBL.out).trans r1; have x2 := (hD1.cell (p := ⟨B, o + k * 5 + 2, none⟩) HBL.out).trans r2; have x3 := (hD1.cell (p := ⟨B, o + k * 5 + 3, none⟩) HBL.out).trans r3; have x4 := (hD1.cell (p := ⟨B, o + k * 5 + 4, none⟩) HBL.out).trans r4; clear hb hD1))
            go_wp2_with fail
            go_ret
            exact ⟨by rw [← HCD.out, HE.out]; rfl, HB.out.trans (HD1.out.mono HB.out.size)⟩
          · by_cases hp2 : 4611686018427387904 < x.p
            · have d1 : decide (x.p < 1) = false := by simpa using hp1
              have d2 : decide (4611686018427387904 < x.p) = true := by simpa using hp2
              have HE := WirS.hide (show rowE 1 none vs = 3 by rw [hE, drop_get hx, rowE, if_neg (by rw [nextE, hlate, if_neg (by simp), if_pos (.inr hp2)]; decide), nextE, hlate, if_neg (by simp), if_pos (.inr hp2)])
              clear hE hx hr hmem hB hq0 hq1 hlate
              go_upto_region 8 with fail
              go_region_held3 (fun w' => (w'.cell? ⟨B, o + (k - 1) * 5, none⟩ = some (.int .u8 y.a) ∧ w'.cell? ⟨B, o + (k - 1) * 5 + 1, none⟩ = some (.int .u8 y.b) ∧ w'.cell? ⟨B, o + (k - 1) * 5 + 2, none⟩ = some (.int .u8 y.c) ∧ w'.cell? ⟨B, o + (k - 1) * 5 + 3, none⟩ = some (.int .u8 y.d)) ∧ w'.cell? ⟨B, o + k * 5, none⟩ = some (.int .u8 x.a) ∧ w'.cell? ⟨B, o + k * 5 + 1, none⟩ = some (.int .u8 x.b) ∧ w'.cell? ⟨B, o + k * 5 + 2, none⟩ = some (.int .u8 x.c) ∧ w'.cell? ⟨B, o + k * 5 + 3, none⟩ = some (.int .u8 x.d)) (go_keep)
                (first | (go_at_call 147; refine (HLs.out _).mono ?_; rintro e w1 ⟨rfl, hb⟩; have hD1 : Below wr.heap.size wr w1 := (below_drewN (Below.refl _ _) 1).trans hb; have HD1 := WirS.hide hD1; have y0 := (hD1.cell (p := ⟨B, o + (k - 1) * 5, none⟩) HBL.out).trans s0; have y1 := (hD1.cell (p := ⟨B, o + (k - 1) * 5 + 1, none⟩) HBL.out).trans s1; have y2 := (hD1.cell (p := ⟨B, o + (k - 1) * 5 + 2, none⟩) HBL.out).trans s2; have y3 := (hD1.cell (p := ⟨B, o + (k - 1) * 5 + 3, none⟩) HBL.out).trans s3; have x0 := (hD1.cell (p := ⟨B, o + k * 5, none⟩) HBL.out).trans r0; have x1 := (hD1.cell (p := ⟨B, o + k * 5 + 1, none⟩) HBL.out).trans r1; have x2 := (hD1.cell (p := ⟨B, o + k * 5 + 2, none⟩) HBL.out).trans r2; have x3 := (hD1.cell (p := ⟨B, o + k * 5 + 3, none⟩) HBL.out).trans r3; have x4 := (hD1.cell (p := ⟨B, o + k * 5 + 4, none⟩) HBL.out).trans r4; clear hb hD1))
              go_wp2_with fail
              go_ret
              exact ⟨by rw [← HCD.out, HE.out]; rfl, HB.out.trans (HD1.out.mono HB.out.size)⟩
            · have d1 : decide (x.p < 1) = false := by simpa using hp1
              have d2 : decide (4611686018427387904 < x.p) = false := by simpa using hp2
              have HE := WirS.hide (show rowE 1 none vs = rowE 1 (some x) (vs.drop (k + 1)) by rw [hE, drop_get hx, rowE, if_pos (by rw [nextE, hlate, if_neg (by simp), if_neg (by omega)])])
              clear hE hx hr hmem hB hq0 hq1 hlate
              go_upto_region 8 with fail
              go_region_held3 (fun w' => (w'.cell? ⟨B, o + (k - 1) * 5, none⟩ = some (.int .u8 y.a) ∧ w'.cell? ⟨B, o + (k - 1) * 5 + 1, none⟩ = some (.int .u8 y.b) ∧ w'.cell? ⟨B, o + (k - 1) * 5 + 2, none⟩ = some (.int .u8 y.c) ∧ w'.cell? ⟨B, o + (k - 1) * 5 + 3, none⟩ = some (.int .u8 y.d)) ∧ w'.cell? ⟨B, o + k * 5, none⟩ = some (.int .u8 x.a) ∧ w'.cell? ⟨B, o + k * 5 + 1, none⟩ = some (.int .u8 x.b) ∧ w'.cell? ⟨B, o + k * 5 + 2, none⟩ = some (.int .u8 x.c) ∧ w'.cell? ⟨B, o + k * 5 + 3, none⟩ = some (.int .u8 x.d)) (go_keep)
                (first | (go_at_call 147; refine (HLs.out _).mono ?_; rintro e w1 ⟨rfl, hb⟩; have hD1 : Below wr.heap.size wr w1 := (below_drewN (Below.refl _ _) 1).trans hb; have HD1 := WirS.hide hD1; have y0 := (hD1.cell (p := ⟨B, o + (k - 1) * 5, none⟩) HBL.out).trans s0; have y1 := (hD1.cell (p := ⟨B, o + (k - 1) * 5 + 1, none⟩) HBL.out).trans s1; have y2 := (hD1.cell (p := ⟨B, o + (k - 1) * 5 + 2, none⟩) HBL.out).trans s2; have y3 := (hD1.cell (p := ⟨B, o + (k - 1) * 5 + 3, none⟩) HBL.out).trans s3; have x0 := (hD1.cell (p := ⟨B, o + k * 5, none⟩) HBL.out).trans r0; have x1 := (hD1.cell (p := ⟨B, o + k * 5 + 1, none⟩) HBL.out).trans r1; have x2 := (hD1.cell (p := ⟨B, o + k * 5 + 2, none⟩) HBL.out).trans r2; have x3 := (hD1.cell (p := ⟨B, o + k * 5 + 3, none⟩) HBL.out).trans r3; have x4 := (hD1.cell (p := ⟨B, o + k * 5 + 4, none⟩) HBL.out).trans r4; clear hb hD1))
              go_wp2_with fail
              go_roundw
              case rel => exact ⟨k + 1, some x, by omega, by first | rfl | go_num, fun h => absurd h (by omega), fun _ => by rw [Nat.add_sub_cancel]; exact HX.out.symm, HE.out, HB.out.trans (HD1.out.mono HB.out.size)⟩
              case measure => simp [intOf]; omega
        · have hlate : late (some y) x = true := by simp only [late, decide_eq_true_iff]; omega
          rw [decide_eq_false hl] at HLs
          have HE := WirS.hide (show rowE 1 none vs = 9 by rw [hE, drop_get hx, rowE, if_neg (by rw [nextE, hlate, if_pos rfl]; decide), nextE, hlate, if_pos rfl])
          clear hE hx hr hmem hB hq0 hq1 hlate
          go_upto_region 8 with fail
          go_region_held3 (fun w' => (w'.cell? ⟨B, o + (k - 1) * 5, none⟩ = some (.int .u8 y.a) ∧ w'.cell? ⟨B, o + (k - 1) * 5 + 1, none⟩ = some (.int .u8 y.b) ∧ w'.cell? ⟨B, o + (k - 1) * 5 + 2, none⟩ = some (.int .u8 y.c) ∧ w'.cell? ⟨B, o + (k - 1) * 5 + 3, none⟩ = some (.int .u8 y.d)) ∧ w'.cell? ⟨B, o + k * 5, none⟩ = some (.int .u8 x.a) ∧ w'.cell? ⟨B, o + k * 5 + 1, none⟩ = some (.int .u8 x.b) ∧ w'.cell? ⟨B, o + k * 5 + 2, none⟩ = some (.int .u8 x.c) ∧ w'.cell? ⟨B, o + k * 5 + 3, none⟩ = some (.int .u8 x.d)) (go_keep)
            (first | (go_at_call 147; refine (HLs.out _).mono ?_; rintro e w1 ⟨rfl, hb⟩; have hD1 : Below wr.heap.size wr w1 := (below_drewN (Below.refl _ _) 1).trans hb; have HD1 := WirS.hide hD1; have y0 := (hD1.cell (p := ⟨B, o + (k - 1) * 5, none⟩) HBL.out).trans s0; have y1 := (hD1.cell (p := ⟨B, o + (k - 1) * 5 + 1, none⟩) HBL.out).trans s1; have y2 := (hD1.cell (p := ⟨B, o + (k - 1) * 5 + 2, none⟩) HBL.out).trans s2; have y3 := (hD1.cell (p := ⟨B, o + (k - 1) * 5 + 3, none⟩) HBL.out).trans s3; have x0 := (hD1.cell (p := ⟨B, o + k * 5, none⟩) HBL.out).trans r0; have x1 := (hD1.cell (p := ⟨B, o + k * 5 + 1, none⟩) HBL.out).trans r1; have x2 := (hD1.cell (p := ⟨B, o + k * 5 + 2, none⟩) HBL.out).trans r2; have x3 := (hD1.cell (p := ⟨B, o + k * 5 + 3, none⟩) HBL.out).trans r3; have x4 := (hD1.cell (p := ⟨B, o + k * 5 + 4, none⟩) HBL.out).trans r4; clear hb hD1))
          go_wp2_with fail
          go_ret
          exact ⟨by rw [← HCD.out, HE.out]; rfl, HB.out.trans (HD1.out.mono HB.out.size)⟩
    · have hd : vs.drop k = [] := List.drop_eq_nil_of_le (by rw [HL.out]; omega)
      rw [hd, rowE] at hE
      have HE := WirS.hide hE
      have HB := WirS.hide hB
      have hkl : ¬ (k : Int) < (n : Int) := by omega
      clear hE hB hd hq0 hq1
      go_wp2_with fail
      go_ret
      exact ⟨by rw [← HCD.out, HE.out]; rfl, HB.out⟩
end ValRB
end Go.Proofs.Ytackcnncjeajpaa

namespace Go.Proofs.Ytackcnncjeajpaa
namespace ValRC
open Go.RowKit
open BlkM WirM WirS ValA ValB ValC ValD ValE ValH ValP ValQ ValRA ValY

def kk (c v : Vd) : List Vd := if v.key = c.key then [] else [v]
def cgo (c : Vd) : List Vd → Bool → List Vd
  | [], put => if put = true then [] else [c]
  | v :: l, put => if put = false ∧ c.rk < v.rk then c :: v :: cgo c l true else kk c v ++ cgo c l put
def cgd (l : List Vd) (c : Vd) : List Vd := cgo c l (c.p == 0)
theorem neK4 (x k : Vd) (W : World) : (binOp .neq 36 (.agg #[.int .u8 x.a, .int .u8 x.b, .int .u8 x.c, .int .u8 x.d]) (.agg #[.int .u8 k.a, .int .u8 k.b, .int .u8 k.c, .int .u8 k.d])).run Try.prog W = .ok (.bool (!decide (x.key = k.key))) W := by
  have h := eqK4 x k W
  simp only [binOp, Sem.run_bind, Sem.run_pure] at h ⊢
  generalize (Op.equal 36 (.agg #[.int .u8 x.a, .int .u8 x.b, .int .u8 x.c, .int .u8 x.d]) (.agg #[.int .u8 k.a, .int .u8 k.b, .int .u8 k.c, .int .u8 k.d])).run Try.prog W = r at *
  cases r <;> simp_all [Result.andThen]
def MidCg (W0 : World) (vs : List Vd) (c : Vd) (n : Nat) (v t i : Value) (U : World) : Prop :=
  ∃ (k : Nat) (pre : List Vd) (put : Bool), k ≤ n ∧ i = .int .i64 (k : Int) ∧ t = .bool put ∧ OwnV U v pre ∧ ValF.NewB W0 v ∧ Below W0.heap.size W0 U ∧ pre.length ≤ 2 * k ∧ cgd vs c = pre ++ cgo c (vs.drop k) put
set_option maxRecDepth 10000 in
set_option maxHeartbeats 20000000 in
theorem changed_any (w : World) (la : Option Addr) (n lc : Nat) (vs : List Vd) (c : Vd) (h : VIn w la n lc vs) (hc : c.ok) (hn : n ≤ 1000) :
    Calls Try.prog 148 #[.slice la n lc, .agg #[.int .u8 c.a, .int .u8 c.b, .int .u8 c.c, .int .u8 c.d, .int .i64 c.p]] w fun e w' => ∃ va vn vc, e = .returned (.slice va vn vc) ∧ OwnV w' (.slice va vn vc) (cgd vs c) ∧ ValF.NewB w (.slice va vn vc) ∧ Below w.heap.size w w' := by
  obtain ⟨W0, e0⟩ : ∃ X, X = w.alloc (.cells #[.int .u8 c.a, .int .u8 c.b, .int .u8 c.c, .int .u8 c.d, .int .i64 c.p] 100) := ⟨_, rfl⟩
  have hA : At W0 w.heap.size 100 c.cells := by rw [e0]; exact At.new w _ _
  have hb0 : Below w.heap.size w W0 := by rw [e0]; exact Below.alloc (Below.refl _ _) (Nat.le_refl _) _
  have H := WirS.hide (h.below hb0)
  have HL := WirS.hide h.len
  have HA := WirS.hide hA
  have HB0 := WirS.hide hb0
  have HC := WirS.hide hc
  have HN0 := WirS.hide hn
  have E0 := WirS.hide e0
  have HST := WirS.hide (show MidCg W0 vs c n (.slice none 0 0) (.bool (c.p == 0)) (.int .i64 0) W0 from ⟨0, [], _, by omega, rfl, rfl, OwnV.nil _, NewB_nil _, Below.refl _ _, by simp, rfl⟩)
  clear h hA hb0 hc e0 hn
  go_enter Try.func148, Try.ntmps148
  go_upto_region 2 with fail
  rw [← E0.out]
  have a4 : W0.cell? ⟨w.heap.size, 4, none⟩ = some (.int .i64 c.p) := HA.out.cell 4
  go_upto_region 4 with fail
  clear E0 a4
  generalize hX : w.heap.size = X at *
  have HXE := WirS.hide hX
  clear hX
  go_loopw [5, 6, 7] (fun v t i wr => MidCg W0 vs c n v t i wr) (fun _ _ i _ => n - (intOf i).toNat)
  case atStart => exact HST.out
  case round =>
    clear HST
    obtain ⟨k, pre, put, hk, rfl, rfl, hO, hN, hB, hlen, hE⟩ := hrel
    have HO := WirS.hide hO
    have HN := WirS.hide hN
    have HB := WirS.hide hB
    have HPL := WirS.hide hlen
    clear hO hN hB hlen
    by_cases hlt : k < n
    · obtain ⟨x, B, o, hx, hmem, rfl, hBl, hr⟩ := H.out.cell hlt
      have HF := WirS.hide (fun (U : World) (hU : Below W0.heap.size W0 U) => (show U.cell? ⟨B, o + k * 5, none⟩ = some (.int .u8 x.a) ∧ U.cell? ⟨B, o + k * 5 + 1, none⟩ = some (.int .u8 x.b) ∧ U.cell? ⟨B, o + k * 5 + 2, none⟩ = some (.int .u8 x.c) ∧ U.cell? ⟨B, o + k * 5 + 3, none⟩ = some (.int .u8 x.d) ∧ U.cell? ⟨B, o + k * 5 + 4, none⟩ = some (.int .i64 x.p) ∧ U.cell? ⟨X, 0, none⟩ = some (.int .u8 c.a) ∧ U.cell? ⟨X, 1, none⟩ = some (.int .u8 c.b) ∧ U.cell? ⟨X, 2, none⟩ = some (.int .u8 c.c) ∧ U.cell? ⟨X, 3, none⟩ = some (.int .u8 c.d) ∧ U.cell? ⟨X, 4, none⟩ = some (.int .i64 c.p) from ⟨(hU.cell (p := ⟨B, _, none⟩) hBl).trans (hr 0 _ rfl), (hU.cell (p := ⟨B, _, none⟩) hBl).trans (hr 1 _ rfl), (hU.cell (p := ⟨B, _, none⟩) hBl).trans (hr 2 _ rfl), (hU.cell (p := ⟨B, _, none⟩) hBl).trans (hr 3 _ rfl), (hU.cell (p := ⟨B, _, none⟩) hBl).trans (hr 4 _ rfl), (hU.cell (p := ⟨X, _, none⟩) HA.out.lt).trans (HA.out.cell 0), (hU.cell (p := ⟨X, _, none⟩) HA.out.lt).trans (HA.out.cell 1), (hU.cell (p := ⟨X, _, none⟩) HA.out.lt).trans (HA.out.cell 2), (hU.cell (p := ⟨X, _, none⟩) HA.out.lt).trans (HA.out.cell 3), (hU.cell (p := ⟨X, _, none⟩) HA.out.lt).trans (HA.out.cell 4)⟩))
      obtain ⟨r0, r1, r2, r3, r4, s0, s1, s2, s3, s4⟩ := HF.out wr HB.out
      have hkl : (k : Int) < (n : Int) := by omega
      have hk63 : k ≤ 1000 := by have := HN0.out; omega
      have HXO := WirS.hide (H.out.ok x hmem)
      rw [drop_get hx, cgo] at hE
      have hq := fun U => neK4 x c U
      have HLs := WirS.hide (fun U => less_any U c x HC.out HXO.out)
      clear hr hx hmem
      cases hput : put
      · subst hput
        by_cases hl : c.rk < x.rk
        · have hkey : x.key ≠ c.key := fun e => by
            unfold Vd.key at e
            simp only [List.cons.injEq, and_true] at e
            unfold Vd.rk at hl
            omega
          rw [if_pos ⟨rfl, hl⟩] at hE
          have HE := WirS.hide hE
          rw [decide_eq_true hl] at HLs
          rw [decide_eq_false hkey] at hq
          rw [Bool.not_false] at hq
          clear hE hkey hl
          go_upto_region 6 with fail
          go_region_held3 (fun w' => w'.cell? ⟨B, o + k * 5, none⟩ = some (.int .u8 x.a) ∧ w'.cell? ⟨B, o + k * 5 + 1, none⟩ = some (.int .u8 x.b) ∧ w'.cell? ⟨B, o + k * 5 + 2, none⟩ = some (.int .u8 x.c) ∧ w'.cell? ⟨B, o + k * 5 + 3, none⟩ = some (.int .u8 x.d) ∧ w'.cell? ⟨B, o + k * 5 + 4, none⟩ = some (.int .i64 x.p) ∧ w'.cell? ⟨X, 0, none⟩ = some (.int .u8 c.a) ∧ w'.cell? ⟨X, 1, none⟩ = some (.int .u8 c.b) ∧ w'.cell? ⟨X, 2, none⟩ = some (.int .u8 c.c) ∧ w'.cell? ⟨X, 3, none⟩ = some (.int .u8 c.d) ∧ w'.cell? ⟨X, 4, none⟩ = some (.int .i64 c.p)) (go_keep)
            (first | (go_at_call 147; refine (HLs.out _).mono ?_; rintro e w1 ⟨rfl, hb⟩; have hD1 : Below wr.heap.size wr w1 := (below_drewN (Below.refl _ _) 1).trans hb; have HD1 := WirS.hide hD1; have hB1 := HB.out.trans (hD1.mono HB.out.size); obtain ⟨t0, t1, t2, t3, t4, q0, q1, q2, q3, q4⟩ := HF.out w1 hB1; have HB1 := WirS.hide hB1; clear hb hD1 hB1))
          obtain ⟨v1, u1, hr1, ho, hn, hb⟩ := app_one W0 w1 u5 (pre) (c) (HO.out.below HD1.out) HN.out HB1.out HC.out (by have := HPL.out; have := HN0.out; first | omega | (simp only [List.length_append, List.length_cons, List.length_nil]; omega)) w1.heap.size (by simp)
          have HOu1 := WirS.hide ho
          have HNu1 := WirS.hide hn
          have HBu1 := WirS.hide hb
          clear ho hn hb
          obtain ⟨f0, f1, f2, f3, f4, g0, g1, g2, g3, g4⟩ := HF.out u1 HBu1.out
          go_wp2_with (at_builtin; refine sA (by kernel_rfl) _ _ _ _ (by rfl) _ _ (by rfl) (by rfl) v1 u1 hr1 ?_)
          go_quiet (fail)
          obtain ⟨v2, u2x, hr2, ho, hn, hb⟩ := app_one W0 (u1.drewN nq) v1 (pre ++ [c]) (x) (HOu1.out.below (below_drewN (Below.refl _ _) _)) HNu1.out (HBu1.out.trans ((below_drewN (Below.refl _ _) _).mono HBu1.out.size)) HXO.out (by have := HPL.out; have := HN0.out; first | omega | (simp only [List.length_append, List.length_cons, List.length_nil]; omega)) u1.heap.size (by simp)
          have HOu2x := WirS.hide ho
          have HNu2x := WirS.hide hn
          have HBu2x := WirS.hide hb
          clear ho hn hb
          go_wp2_with (at_builtin; refine sA (by kernel_rfl) _ _ _ _ (by rfl) _ _ (by rfl) (by rfl) v2 u2x hr2 ?_)
          go_roundw
          case rel => exact ⟨k + 1, pre ++ [c] ++ [x], true, by omega, by go_num, rfl, HOu2x.out, HNu2x.out, HBu2x.out, by have := HPL.out; first | omega | (simp only [List.length_append, List.length_cons, List.length_nil]; omega), by first | exact HE.out | (rw [HE.out]; simp)⟩
          case measure => simp [intOf]; omega
        · rw [if_neg (by rintro ⟨_, h⟩; exact hl h)] at hE
          rw [decide_eq_false hl] at HLs
          by_cases hkey : x.key = c.key
          · rw [decide_eq_true hkey] at hq
            rw [Bool.not_true] at hq
            have HE := WirS.hide (show cgd vs c = pre ++ cgo c (vs.drop (k + 1)) false by rw [hE, kk, if_pos hkey]; rfl)
            clear hE
            go_upto_region 6 with fail
            go_region_held3 (fun w' => w'.cell? ⟨B, o + k * 5, none⟩ = some (.int .u8 x.a) ∧ w'.cell? ⟨B, o + k * 5 + 1, none⟩ = some (.int .u8 x.b) ∧ w'.cell? ⟨B, o + k * 5 + 2, none⟩ = some (.int .u8 x.c) ∧ w'.cell? ⟨B, o + k * 5 + 3, none⟩ = some (.int .u8 x.d) ∧ w'.cell? ⟨B, o + k * 5 + 4, none⟩ = some (.int .i64 x.p) ∧ w'.cell? ⟨X, 0, none⟩ = some (.int .u8 c.a) ∧ w'.cell? ⟨X, 1, none⟩ = some (.int .u8 c.b) ∧ w'.cell? ⟨X, 2, none⟩ = some (.int .u8 c.c) ∧ w'.cell? ⟨X, 3, none⟩ = some (.int .u8 c.d) ∧ w'.cell? ⟨X, 4, none⟩ = some (.int .i64 c.p)) (go_keep)
              (first | (go_at_call 147; refine (HLs.out _).mono ?_; rintro e w1 ⟨rfl, hb⟩; have hD1 : Below wr.heap.size wr w1 := (below_drewN (Below.refl _ _) 1).trans hb; have HD1 := WirS.hide hD1; have hB1 := HB.out.trans (hD1.mono HB.out.size); obtain ⟨t0, t1, t2, t3, t4, q0, q1, q2, q3, q4⟩ := HF.out w1 hB1; have HB1 := WirS.hide hB1; clear hb hD1 hB1))
            go_wp2_with fail
            go_quiet (fail)
            go_wp2_with fail
            go_roundw
            case rel => exact ⟨k + 1, pre, false, by omega, by go_num, rfl, (HO.out.below (below_drewN HD1.out _)), HN.out, (HB1.out.trans ((below_drewN (Below.refl _ _) _).mono HB1.out.size)), by have := HPL.out; first | omega | (simp only [List.length_append, List.length_cons, List.length_nil]; omega), by first | exact HE.out | (rw [HE.out]; simp)⟩
            case measure => simp [intOf]; omega
          · rw [decide_eq_false hkey] at hq
            rw [Bool.not_false] at hq
            have HE := WirS.hide (show cgd vs c = pre ++ ([x] ++ cgo c (vs.drop (k + 1)) false) by rw [hE, kk, if_neg hkey])
            clear hE
            go_upto_region 6 with fail
            go_region_held3 (fun w' => w'.cell? ⟨B, o + k * 5, none⟩ = some (.int .u8 x.a) ∧ w'.cell? ⟨B, o + k * 5 + 1, none⟩ = some (.int .u8 x.b) ∧ w'.cell? ⟨B, o + k * 5 + 2, none⟩ = some (.int .u8 x.c) ∧ w'.cell? ⟨B, o + k * 5 + 3, none⟩ = some (.int .u8 x.d) ∧ w'.cell? ⟨B, o + k * 5 + 4, none⟩ = some (.int .i64 x.p) ∧ w'.cell? ⟨X, 0, none⟩ = some (.int .u8 c.a) ∧ w'.cell? ⟨X, 1, none⟩ = some (.int .u8 c.b) ∧ w'.cell? ⟨X, 2, none⟩ = some (.int .u8 c.c) ∧ w'.cell? ⟨X, 3, none⟩ = some (.int .u8 c.d) ∧ w'.cell? ⟨X, 4, none⟩ = some (.int .i64 c.p)) (go_keep)
              (first | (go_at_call 147; refine (HLs.out _).mono ?_; rintro e w1 ⟨rfl, hb⟩; have hD1 : Below wr.heap.size wr w1 := (below_drewN (Below.refl _ _) 1).trans hb; have HD1 := WirS.hide hD1; have hB1 := HB.out.trans (hD1.mono HB.out.size); obtain ⟨t0, t1, t2, t3, t4, q0, q1, q2, q3, q4⟩ := HF.out w1 hB1; have HB1 := WirS.hide hB1; clear hb hD1 hB1))
            go_wp2_with fail
            go_quiet (fail)
            obtain ⟨v1, u1, hr1, ho, hn, hb⟩ := app_one W0 (w1.drewN nq) u5 (pre) (x) (HO.out.below (below_drewN HD1.out _)) HN.out (HB1.out.trans ((below_drewN (Below.refl _ _) _).mono HB1.out.size)) HXO.out (by have := HPL.out; have := HN0.out; first | omega | (simp only [List.length_append, List.length_cons, List.length_nil]; omega)) w1.heap.size (by simp)
            have HOu1 := WirS.hide ho
            have HNu1 := WirS.hide hn
            have HBu1 := WirS.hide hb
            clear ho hn hb
            go_wp2_with (at_builtin; refine sA (by kernel_rfl) _ _ _ _ (by rfl) _ _ (by rfl) (by rfl) v1 u1 hr1 ?_)
            go_roundw
            case rel => exact ⟨k + 1, pre ++ [x], false, by omega, by go_num, rfl, HOu1.out, HNu1.out, HBu1.out, by have := HPL.out; first | omega | (simp only [List.length_append, List.length_cons, List.length_nil]; omega), by first | exact HE.out | (rw [HE.out]; simp)⟩
            case measure => simp [intOf]; omega
      · subst hput
        rw [if_neg (by simp)] at hE
        by_cases hkey : x.key = c.key
        · rw [decide_eq_true hkey] at hq
          rw [Bool.not_true] at hq
          have HE := WirS.hide (show cgd vs c = pre ++ cgo c (vs.drop (k + 1)) true by rw [hE, kk, if_pos hkey]; rfl)
          clear hE
          go_wp2_with fail
          go_quiet (fail)
          generalize nq = n1 at *
          go_wp2_with fail
          go_quiet (fail)
          go_wp2_with fail
          go_roundw
          case rel => exact ⟨k + 1, pre, true, by omega, by go_num, rfl, (HO.out.below (below_drewN (Below.refl _ _) _)), HN.out, (HB.out.trans ((below_drewN (Below.refl _ _) _).mono HB.out.size)), by have := HPL.out; first | omega | (simp only [List.length_append, List.length_cons, List.length_nil]; omega), by first | exact HE.out | (rw [HE.out]; simp)⟩
          case measure => simp [intOf]; omega
        · rw [decide_eq_false hkey] at hq
          rw [Bool.not_false] at hq
          have HE := WirS.hide (show cgd vs c = pre ++ ([x] ++ cgo c (vs.drop (k + 1)) true) by rw [hE, kk, if_neg hkey])
          clear hE
          go_wp2_with fail
          go_quiet (fail)
          generalize nq = n1 at *
          go_wp2_with fail
          go_quiet (fail)
          obtain ⟨v1, u1, hr1, ho, hn, hb⟩ := app_one W0 (wr.drewN (n1 + nq)) u5 (pre) (x) (HO.out.below (below_drewN (Below.refl _ _) _)) HN.out (HB.out.trans ((below_drewN (Below.refl _ _) _).mono HB.out.size)) HXO.out (by have := HPL.out; have := HN0.out; first | omega | (simp only [List.length_append, List.length_cons, List.length_nil]; omega)) wr.heap.size (by simp)
          have HOu1 := WirS.hide ho
          have HNu1 := WirS.hide hn
          have HBu1 := WirS.hide hb
          clear ho hn hb
          go_wp2_with (at_builtin; refine sA (by kernel_rfl) _ _ _ _ (by rfl) _ _ (by rfl) (by rfl) v1 u1 hr1 ?_)
          go_roundw
          case rel => exact ⟨k + 1, pre ++ [x], true, by omega, by go_num, rfl, HOu1.out, HNu1.out, HBu1.out, by have := HPL.out; first | omega | (simp only [List.length_append, List.length_cons, List.length_nil]; omega), by first | exact HE.out | (rw [HE.out]; simp)⟩
          case measure => simp [intOf]; omega
    · have hd : vs.drop k = [] := List.drop_eq_nil_of_le (by rw [HL.out]; omega)
      rw [hd, cgo] at hE
      have hkl : ¬ (k : Int) < (n : Int) := by omega
      cases put
      · rw [if_neg (by simp)] at hE
        have HE := WirS.hide hE
        clear hE hd
        have s0 := (HB.out.cell (p := ⟨X, 0, none⟩) HA.out.lt).trans (HA.out.cell 0)
        have s1 := (HB.out.cell (p := ⟨X, 1, none⟩) HA.out.lt).trans (HA.out.cell 1)
        have s2 := (HB.out.cell (p := ⟨X, 2, none⟩) HA.out.lt).trans (HA.out.cell 2)
        have s3 := (HB.out.cell (p := ⟨X, 3, none⟩) HA.out.lt).trans (HA.out.cell 3)
        have s4 := (HB.out.cell (p := ⟨X, 4, none⟩) HA.out.lt).trans (HA.out.cell 4)
        simp only [Vd.cells, List.getElem?_cons_zero, List.getElem?_cons_succ] at s0 s1 s2 s3 s4
        obtain ⟨v1, u1, hr1, ho, hn, hb⟩ := app_one W0 wr u5 (pre) (c) HO.out HN.out HB.out HC.out (by have := HPL.out; have := HN0.out; first | omega | (simp only [List.length_append, List.length_cons, List.length_nil]; omega)) wr.heap.size (by simp)
        have HOu1 := WirS.hide ho
        have HNu1 := WirS.hide hn
        have HBu1 := WirS.hide hb
        clear ho hn hb
        obtain ⟨va, vc, rfl⟩ := HOu1.out.len_of
        generalize hvn : (pre ++ [c]).length = vn at *
        go_wp2_with (at_builtin; refine sA (by kernel_rfl) _ _ _ _ (by rfl) _ _ (by rfl) (by rfl) _ u1 hr1 ?_)
        go_ret
        exact ⟨_, _, _, rfl, by rw [HE.out]; exact HOu1.out, fun q hq => Nat.le_trans HB0.out.size (HNu1.out q hq), by rw [HXE.out]; exact HB0.out.trans (HBu1.out.mono (by rw [← HXE.out]; exact HB0.out.size))⟩
      · rw [if_pos rfl, List.append_nil] at hE
        have HE := WirS.hide hE
        clear hE hd
        obtain ⟨va, vc, rfl⟩ := HO.out.len_of
        go_wp2_with fail
        go_ret
        exact ⟨_, _, _, rfl, by rw [HE.out]; exact HO.out, fun q hq => Nat.le_trans HB0.out.size (HN.out q hq), by rw [HXE.out]; exact HB0.out.trans (HB.out.mono (by rw [← HXE.out]; exact HB0.out.size))⟩
end ValRC
end Go.Proofs.Ytackcnncjeajpaa

namespace Go.Proofs.Ytackcnncjeajpaa
namespace ValRD
open Go.RowKit
open BlkM WirM WirS ValA ValB ValC ValD ValE ValH ValM ValP ValQ ValRA ValRB ValRC ValY

theorem ownv_new (w : World) : OwnV (w.alloc (.cells #[] 100)) (.slice (some ⟨w.heap.size, 0, none⟩) 0 0) [] := ⟨World.ownsRow_made w #[] 0 (Nat.zero_le _) (Nat.zero_le _) (by simp), fun x hx => by cases hx⟩
theorem cp_row (w : World) (a : Option Addr) (n c : Nat) (vs : List Vd) (h : VIn w a n c vs) (hn : n ≤ 1000) :
    ∃ v1 u1, (Builtin.append_ #[80, 80] 80 #[.slice (some ⟨w.heap.size, 0, none⟩) 0 0, .slice a n c]).run Try.prog (w.alloc (.cells #[] 100)) = .ok v1 u1 ∧ OwnV u1 v1 vs ∧ ValF.NewB w v1 ∧ Below w.heap.size w u1 := by
  have hb : Below w.heap.size w (w.alloc (.cells #[] 100)) := Below.alloc (Below.refl _ _) (Nat.le_refl _) _
  have hl := h.len
  obtain ⟨v', u', hrun, ho, hf, hn'⟩ := app_vals (w.alloc (.cells #[] 100)) 80 80 (.slice (some ⟨w.heap.size, 0, none⟩) 0 0) (.slice a n c) [] vs (ownv_new w) ((h.below hb).src Try.underlying80) h.ok (by simp; omega)
  refine ⟨v', u', hrun, ho, fun q hq => ?_, hb.trans (hf.below (by simp) (fun q hq hx => by simp [Value.ownBlock] at hx; omega))⟩
  rcases hn' q hq with h3 | h3
  · simp [Value.ownBlock] at h3
    omega
  · simp at h3
    omega
theorem copyv_any (w : World) (a : Option Addr) (n c : Nat) (vs : List Vd) (h : VIn w a n c vs) (hn : n ≤ 1000) :
    Calls Try.prog 52 #[.slice a n c] w fun e w' => ∃ va vc, e = .returned (.slice va n vc) ∧ OwnV w' (.slice va n vc) vs ∧ ValF.NewB w (.slice va n vc) ∧ Below w.heap.size w w' := by
  have hl := h.len
  obtain ⟨v1, u1, hrun, ho, hnb, hb⟩ := cp_row w a n c vs h hn
  obtain ⟨va, vc, rfl⟩ := ho.len_of
  rw [hl] at ho hnb hrun
  have HO := WirS.hide ho
  have HN := WirS.hide hnb
  have HB := WirS.hide hb
  clear h ho hnb hb hl
  go_enter Try.func52, Try.ntmps52
  go_upto_region 1 with fail
  refine wp_region_lit ?_
  refine sV (.slice (some ⟨w.heap.size, 0, none⟩) 0 0) (w.alloc (.cells #[] 100)) (by kernel_rfl) (by kernel_rfl) ?_
  simp only [Act.put, List.setIfInBounds_toArray, List.set_cons_succ, List.set_cons_zero]
  refine sV (.slice a n c) (w.alloc (.cells #[] 100)) (by kernel_rfl) (by kernel_rfl) ?_
  simp only [Act.put, List.setIfInBounds_toArray, List.set_cons_succ, List.set_cons_zero]
  refine sA (by kernel_rfl) 80 80 _ _ (by rfl) (.slice (some ⟨w.heap.size, 0, none⟩) 0 0) (.slice a n c) (by kernel_rfl) (by kernel_rfl) (.slice va n vc) (u1) hrun ?_
  simp only [Act.put, List.setIfInBounds_toArray, List.set_cons_succ, List.set_cons_zero]
  go_wp2_with fail
  go_ret
  exact ⟨_, _, rfl, HO.out, HN.out, HB.out⟩
/-- What the statements' own Change tells. -/
def rch (vs ch : List Vd) : Int × List Vd :=
  if chk vs ≠ 0 then (chk vs, []) else if chgE vs none ch ≠ 0 then (chgE vs none ch, []) else
  if (ch.foldl cgd vs).length = 0 then (6, []) else if 64 < (ch.foldl cgd vs).length then (7, []) else (0, ch.foldl cgd vs)
theorem cgo_len (c : Vd) : ∀ (l : List Vd) (put : Bool), (cgo c l put).length ≤ l.length + 1
  | [], put => by rw [cgo]; split <;> simp
  | v :: l, put => by
    rw [cgo]
    split
    · have := cgo_len' c l
      simp only [List.length_cons]
      omega
    · have := cgo_len c l put
      rw [List.length_append, kk]
      simp only [List.length_cons]
      split <;> simp <;> omega
where cgo_len' (c : Vd) : ∀ (l : List Vd), (cgo c l true).length ≤ l.length
  | [] => by simp [cgo]
  | v :: l => by
    have := cgo_len' c l
    rw [cgo, if_neg (by simp), List.length_append, kk]
    simp only [List.length_cons]
    split <;> simp <;> omega
theorem fold_len : ∀ (ch vs : List Vd), (ch.foldl cgd vs).length ≤ vs.length + ch.length
  | [], vs => by simp
  | c :: ch, vs => by
    have h1 := fold_len ch (cgd vs c)
    have h2 := cgo_len c vs (c.p == 0)
    rw [List.foldl_cons, List.length_cons]
    unfold cgd at h1 ⊢
    omega
def RhP (w : World) (R : Int × List Vd) (e : Ending) (w' : World) : Prop := ∃ va vn vc, e = .returned (.tuple #[.slice va vn vc, .int .i64 R.1]) ∧ OwnV w' (.slice va vn vc) R.2 ∧ Below w.heap.size w w'
def MidRh (w : World) (vs ch : List Vd) (n2 : Nat) (v i : Value) (U : World) : Prop :=
  ∃ (k : Nat) (q : Option Vd), k ≤ n2 ∧ i = .int .i64 (k : Int) ∧ (k = 0 → q = none) ∧ (0 < k → q = ch[k - 1]?) ∧ OwnV U v ((ch.take k).foldl cgd vs) ∧ ValF.NewB w v ∧ chgE vs none ch = chgE vs q (ch.drop k) ∧ Below w.heap.size w U
theorem changed_k (U : World) (v : Value) (l : List Vd) (c : Vd) (h : OwnV U v l) (hc : c.ok) (hn : l.length ≤ 1000) :
    Calls Try.prog 148 #[v, .agg #[.int .u8 c.a, .int .u8 c.b, .int .u8 c.c, .int .u8 c.d, .int .i64 c.p]] U fun e w' => ∃ v', e = .returned v' ∧ OwnV w' v' (cgd l c) ∧ ValF.NewB U v' ∧ Below U.heap.size U w' := by
  obtain ⟨va, vc, rfl⟩ := h.len_of
  refine (changed_any U va l.length vc l c h.vin hc hn).mono ?_
  rintro e w' ⟨xa, xn, xc, rfl, ho, hnb, hb⟩
  exact ⟨_, rfl, ho, hnb, hb⟩
set_option maxRecDepth 10000 in
set_option maxHeartbeats 20000000 in
theorem rchange_bad (w : World) (la ca : Option Addr) (n lc n2 cc : Nat) (vs ch : List Vd) (h : VIn w la n lc vs) (cd : Int) (hcd : chk vs = cd) (h0 : cd ≠ 0) :
    Calls Try.prog 54 #[.slice la n lc, .slice ca n2 cc] w (RhP w (rch vs ch)) := by
  have hn0 : (cd == 0) = false := by simpa using h0
  have hn1 : (cd != 0) = true := by simpa using h0
  have HR := WirS.hide (show rch vs ch = (cd, []) by unfold rch; rw [if_pos (by rw [hcd]; exact h0), hcd])
  have HC := WirS.hide (show Calls Try.prog 142 #[.slice la n lc] w (fun e w' => e = .returned (.int .i64 cd) ∧ Below w.heap.size w w') from by rw [← hcd]; exact rcheck_any w la n lc vs h)
  clear h hcd h0
  generalize rch vs ch = R at *
  go_enter Try.func54, Try.ntmps54
  go_wp2_with (go_at_call 142; refine (HC.out).mono ?_; rintro e u1 ⟨rfl, hb⟩; have HB := WirS.hide hb; clear hb)
  refine bodyPost_ret (v := .tuple #[.slice none 0 0, .int .i64 cd]) (by simp [results, Try.results54, go_sem]) rfl ?_
  exact ⟨none, 0, 0, by rw [HR.out], by rw [HR.out]; exact OwnV.nil _, HB.out⟩
set_option maxRecDepth 10000 in
set_option maxHeartbeats 20000000 in
theorem rchange_ok (w : World) (la ca : Option Addr) (n lc n2 cc : Nat) (vs ch : List Vd) (h : VIn w la n lc vs) (h2 : VIn w ca n2 cc ch) (hn2 : n2 ≤ 80) (hck : chk vs = 0) :
    Calls Try.prog 54 #[.slice la n lc, .slice ca n2 cc] w (RhP w (rch vs ch)) := by
  obtain ⟨_, h64, _, _⟩ := (chk_up vs).1 hck
  have hln := h.len
  have hln2 := h2.len
  have hn64 : n ≤ 64 := by omega
  have HC := WirS.hide (show Calls Try.prog 142 #[.slice la n lc] w (fun e w' => e = .returned (.int .i64 0) ∧ Below w.heap.size w w') from by rw [← hck]; exact rcheck_any w la n lc vs h)
  have HCK := WirS.hide hck
  have HLN := WirS.hide hln
  have HLN2 := WirS.hide hln2
  have H := WirS.hide h
  have H2 := WirS.hide h2
  obtain ⟨R, hR⟩ : ∃ R, rch vs ch = R := ⟨_, rfl⟩
  rw [hR]
  have HR := WirS.hide hR
  clear h h2 hck h64 hln hln2 hR
  go_enter Try.func54, Try.ntmps54
  go_upto_region 4 with (go_at_call 142; refine (HC.out).mono ?_; rintro e u1 ⟨rfl, hb⟩; have HB := WirS.hide hb; clear hb)
  obtain ⟨v1, u2, hrun, ho, hnb, hb⟩ := cp_row u1 la n lc vs (H.out.below HB.out) (by omega)
  have HST := WirS.hide (show MidRh w vs ch n2 v1 (.int .i64 0) u2 from ⟨0, none, by omega, rfl, fun _ => rfl, fun h => absurd h (by omega), ho, fun q hq => Nat.le_trans HB.out.size (hnb q hq), rfl, HB.out.trans (hb.mono HB.out.size)⟩)
  clear ho hnb hb
  refine wp_region_lit ?_
  refine sV (.slice (some ⟨u1.heap.size, 0, none⟩) 0 0) (u1.alloc (.cells #[] 100)) (by kernel_rfl) (by kernel_rfl) ?_
  simp only [Act.put, List.setIfInBounds_toArray, List.set_cons_succ, List.set_cons_zero]
  refine sV (.slice la n lc) (u1.alloc (.cells #[] 100)) (by kernel_rfl) (by kernel_rfl) ?_
  simp only [Act.put, List.setIfInBounds_toArray, List.set_cons_succ, List.set_cons_zero]
  refine sA (by kernel_rfl) 80 80 _ _ (by rfl) (.slice (some ⟨u1.heap.size, 0, none⟩) 0 0) (.slice la n lc) (by kernel_rfl) (by kernel_rfl) (v1) (u2) hrun ?_
  simp only [Act.put, List.setIfInBounds_toArray, List.set_cons_succ, List.set_cons_zero]
  clear hrun
  go_wp2_with fail
  go_loopw [7, 8] (fun v i wr => MidRh w vs ch n2 v i wr) (fun _ i _ => n2 - (intOf i).toNat)
  case atStart => exact HST.out
  case round =>
    clear HST
    obtain ⟨k, q, hk, rfl, hq0, hq1, hO, hN, hE, hB⟩ := hrel
    have HO := WirS.hide hO
    have HN := WirS.hide hN
    have HB := WirS.hide hB
    clear hO hN
    by_cases hlt : k < n2
    · obtain ⟨x, B, o, hx, hmem, rfl, hBl, hr⟩ := (H2.out.below hB).cell hlt
      have r0 : wr.cell? ⟨B, o + k * 5, none⟩ = some (.int .u8 x.a) := hr 0 _ rfl
      have r1 : wr.cell? ⟨B, o + k * 5 + 1, none⟩ = some (.int .u8 x.b) := hr 1 _ rfl
      have r2 : wr.cell? ⟨B, o + k * 5 + 2, none⟩ = some (.int .u8 x.c) := hr 2 _ rfl
      have r3 : wr.cell? ⟨B, o + k * 5 + 3, none⟩ = some (.int .u8 x.d) := hr 3 _ rfl
      have r4 : wr.cell? ⟨B, o + k * 5 + 4, none⟩ = some (.int .i64 x.p) := hr 4 _ rfl
      have hkl : (k : Int) < (n2 : Int) := by omega
      have hk80 : k ≤ 80 := by omega
      have HX := WirS.hide hx
      have HXO := WirS.hide (H2.out.ok x hmem)
      obtain ⟨W1, e1⟩ : ∃ Y, Y = wr.alloc (.cells #[.int .u8 x.a, .int .u8 x.b, .int .u8 x.c, .int .u8 x.d, .int .i64 x.p] 100) := ⟨_, rfl⟩
      have hA1 : At W1 wr.heap.size 100 x.cells := by rw [e1]; exact At.new wr _ _
      have h01 : Below wr.heap.size wr W1 := by rw [e1]; exact Below.alloc (Below.refl _ _) (Nat.le_refl _) _
      have hB1 := hB.trans (h01.mono hB.size)
      have HB1 := WirS.hide hB1
      have H01 := WirS.hide h01
      have HFD := WirS.hide (rfind_any W1 la n lc vs x (H.out.below hB1))
      rw [drop_get hx, chgE] at hE
      obtain ⟨ix, hix⟩ : ∃ ix, ixK x.key vs 0 = ix := ⟨_, rfl⟩
      rw [hix] at hE HFD
      obtain ⟨iv, hiv⟩ : ∃ v, (if 0 ≤ ix then ix else 0) = v := ⟨_, rfl⟩
      rw [hiv] at HFD
      have E1 := WirS.hide e1
      obtain ⟨C, hC⟩ : ∃ C, wr.heap.size = C := ⟨_, rfl⟩
      rw [hC] at hA1
      have HFC := WirS.hide (fun (U : World) (hU : Below W1.heap.size W1 U) => (show (U.cell? ⟨C, 0, none⟩ = some (.int .u8 x.a) ∧ U.cell? ⟨C, 1, none⟩ = some (.int .u8 x.b) ∧ U.cell? ⟨C, 2, none⟩ = some (.int .u8 x.c) ∧ U.cell? ⟨C, 3, none⟩ = some (.int .u8 x.d) ∧ U.cell? ⟨C, 4, none⟩ = some (.int .i64 x.p)) from ⟨((hA1.below hU hA1.lt).cell 0), ((hA1.below hU hA1.lt).cell 1), ((hA1.below hU hA1.lt).cell 2), ((hA1.below hU hA1.lt).cell 3), ((hA1.below hU hA1.lt).cell 4)⟩))
      have HBL := WirS.hide hBl
      clear hr hmem e1 hA1 h01 hB1 hix hiv
      by_cases hk0 : k = 0
      · subst hk0
        simp only [Nat.zero_mul, Nat.add_zero] at r0 r1 r2 r3 r4
        obtain rfl : q = none := hq0 rfl
        have hlate : late none x = false := rfl
        by_cases hp1 : x.p < 0
        · have d1 : decide (x.p < 0) = true := by simpa using hp1
          have hnx : nextE 0 none x = 3 := by rw [nextE, hlate, if_neg (by simp), if_pos (.inl hp1)]
          have HE := WirS.hide (show chgE vs none ch = 3 by rw [hE, hnx, if_pos (by decide)])
          have HRC := WirS.hide (show rch vs ch = (3, []) by unfold rch; rw [if_neg (by rw [HCK.out]; simp), if_pos (by rw [HE.out]; decide), HE.out])
          clear hnx
          clear hE hB hq0 hq1 hx hlate
          go_upto_region 9 with fail
          rw [← E1.out]
          try rw [hC]
          clear E1 r0 r1 r2 r3 r4
          obtain ⟨c0, c1, c2, c3, c4⟩ := HFC.out W1 (Below.refl _ _)
          go_upto_region 10 with (go_at_call 146; refine (HFD.out).mono ?_; rintro e u3 ⟨rfl, hb⟩; have H13 := WirS.hide hb; clear hb)
          clear c0 c1 c2 c3 c4
          obtain ⟨c0, c1, c2, c3, c4⟩ := HFC.out u3 H13.out
          go_quiet (fail)
          go_wp2_with fail
          refine bodyPost_ret (v := .tuple #[.slice none 0 0, .int .i64 3]) (by simp [results, Try.results54, go_sem]) rfl ?_
          exact ⟨none, 0, 0, by rw [← HR.out, HRC.out], by rw [← HR.out, HRC.out]; exact OwnV.nil _, HB1.out.trans (((below_drewN H13.out _)).mono HB1.out.size)⟩
        · by_cases hp2 : 4611686018427387904 < x.p
          · have d1 : decide (x.p < 0) = false := by simpa using hp1
            have d2 : decide (4611686018427387904 < x.p) = true := by simpa using hp2
            have hnx : nextE 0 none x = 3 := by rw [nextE, hlate, if_neg (by simp), if_pos (.inr hp2)]
            have HE := WirS.hide (show chgE vs none ch = 3 by rw [hE, hnx, if_pos (by decide)])
            have HRC := WirS.hide (show rch vs ch = (3, []) by unfold rch; rw [if_neg (by rw [HCK.out]; simp), if_pos (by rw [HE.out]; decide), HE.out])
            clear hnx
            clear hE hB hq0 hq1 hx hlate
            go_upto_region 9 with fail
            rw [← E1.out]
            try rw [hC]
            clear E1 r0 r1 r2 r3 r4
            obtain ⟨c0, c1, c2, c3, c4⟩ := HFC.out W1 (Below.refl _ _)
            go_upto_region 10 with (go_at_call 146; refine (HFD.out).mono ?_; rintro e u3 ⟨rfl, hb⟩; have H13 := WirS.hide hb; clear hb)
            clear c0 c1 c2 c3 c4
            obtain ⟨c0, c1, c2, c3, c4⟩ := HFC.out u3 H13.out
            go_quiet (fail)
            go_wp2_with fail
            refine bodyPost_ret (v := .tuple #[.slice none 0 0, .int .i64 3]) (by simp [results, Try.results54, go_sem]) rfl ?_
            exact ⟨none, 0, 0, by rw [← HR.out, HRC.out], by rw [← HR.out, HRC.out]; exact OwnV.nil _, HB1.out.trans (((below_drewN H13.out _)).mono HB1.out.size)⟩
          · have d1 : decide (x.p < 0) = false := by simpa using hp1
            have d2 : decide (4611686018427387904 < x.p) = false := by simpa using hp2
            have hnx : nextE 0 none x = 0 := by rw [nextE, hlate, if_neg (by simp), if_neg (by omega)]
            rw [hnx, if_neg (by simp)] at hE
            clear hnx
            by_cases hz : x.p = 0 ∧ ¬ 0 ≤ ix
            · have d3 : (x.p == 0) = true := by simpa using hz.1
              rw [decide_eq_false hz.2] at HFD
              rw [if_pos hz] at hE
              have HE := WirS.hide hE
              clear hz
              have HRC := WirS.hide (show rch vs ch = (10, []) by unfold rch; rw [if_neg (by rw [HCK.out]; simp), if_pos (by rw [HE.out]; decide), HE.out])
              clear hE hB hq0 hq1 hx hlate
              go_upto_region 9 with fail
              rw [← E1.out]
              try rw [hC]
              clear E1 r0 r1 r2 r3 r4
              obtain ⟨c0, c1, c2, c3, c4⟩ := HFC.out W1 (Below.refl _ _)
              go_upto_region 10 with (go_at_call 146; refine (HFD.out).mono ?_; rintro e u3 ⟨rfl, hb⟩; have H13 := WirS.hide hb; clear hb)
              clear c0 c1 c2 c3 c4
              obtain ⟨c0, c1, c2, c3, c4⟩ := HFC.out u3 H13.out
              go_quiet (fail)
              go_wp2_with fail
              refine bodyPost_ret (v := .tuple #[.slice none 0 0, .int .i64 10]) (by simp [results, Try.results54, go_sem]) rfl ?_
              exact ⟨none, 0, 0, by rw [← HR.out, HRC.out], by rw [← HR.out, HRC.out]; exact OwnV.nil _, HB1.out.trans (((below_drewN H13.out _)).mono HB1.out.size)⟩
            · by_cases hz0 : x.p = 0
              · have d3 : (x.p == 0) = true := by simpa using hz0
                have hi0 : 0 ≤ ix := Decidable.byContradiction fun h => hz ⟨hz0, h⟩
                rw [decide_eq_true hi0] at HFD
                clear hi0
                rw [if_neg hz] at hE
                have HE := WirS.hide hE
                clear hz hz0
                clear hE hB hq0 hq1 hx hlate
                have HCH := WirS.hide (fun (U : World) (hU : Below W1.heap.size W1 U) => changed_k U u7 ((ch.take 0).foldl cgd vs) x (HO.out.below (H01.out.trans (hU.mono H01.out.size))) HXO.out (by have h1 := fold_len (ch.take 0) vs; have h2 := List.length_take_le 0 ch; have := HLN.out; omega))
                go_upto_region 9 with fail
                rw [← E1.out]
                try rw [hC]
                clear E1 r0 r1 r2 r3 r4
                obtain ⟨c0, c1, c2, c3, c4⟩ := HFC.out W1 (Below.refl _ _)
                go_upto_region 10 with (go_at_call 146; refine (HFD.out).mono ?_; rintro e u3 ⟨rfl, hb⟩; have H13 := WirS.hide hb; clear hb)
                clear c0 c1 c2 c3 c4
                obtain ⟨c0, c1, c2, c3, c4⟩ := HFC.out u3 H13.out
                go_quiet (fail)
                go_wp2_with (go_at_call 148; refine (HCH.out _ ((below_drewN H13.out _))).mono ?_; rintro e u5 ⟨v5, rfl, ho, hnb, hb⟩; have HO5 := WirS.hide ho; have HN5 := WirS.hide hnb; have HB5 := WirS.hide (((below_drewN H13.out _)).trans (hb.mono ((below_drewN H13.out _)).size)); clear ho hnb hb)
                go_roundw
                case rel => exact ⟨0 + 1, some x, by omega, by first | rfl | go_num, fun h => absurd h (by omega), fun _ => by rw [Nat.add_sub_cancel]; exact HX.out.symm, by rw [List.take_add_one, HX.out, Option.toList_some, List.foldl_append]; exact HO5.out, fun q hq => Nat.le_trans (Nat.le_trans HB1.out.size ((below_drewN H13.out _)).size) (HN5.out q hq), HE.out, HB1.out.trans (HB5.out.mono HB1.out.size)⟩
                case measure => simp [intOf]; omega
              · have d3 : (x.p == 0) = false := by simpa using hz0
                rw [if_neg hz] at hE
                have HE := WirS.hide hE
                clear hz hz0
                clear hE hB hq0 hq1 hx hlate
                have HCH := WirS.hide (fun (U : World) (hU : Below W1.heap.size W1 U) => changed_k U u7 ((ch.take 0).foldl cgd vs) x (HO.out.below (H01.out.trans (hU.mono H01.out.size))) HXO.out (by have h1 := fold_len (ch.take 0) vs; have h2 := List.length_take_le 0 ch; have := HLN.out; omega))
                go_upto_region 9 with fail
                rw [← E1.out]
                try rw [hC]
                clear E1 r0 r1 r2 r3 r4
                obtain ⟨c0, c1, c2, c3, c4⟩ := HFC.out W1 (Below.refl _ _)
                go_upto_region 10 with (go_at_call 146; refine (HFD.out).mono ?_; rintro e u3 ⟨rfl, hb⟩; have H13 := WirS.hide hb; clear hb)
                clear c0 c1 c2 c3 c4
                obtain ⟨c0, c1, c2, c3, c4⟩ := HFC.out u3 H13.out
                go_quiet (fail)
                go_wp2_with (go_at_call 148; refine (HCH.out _ ((below_drewN H13.out _))).mono ?_; rintro e u5 ⟨v5, rfl, ho, hnb, hb⟩; have HO5 := WirS.hide ho; have HN5 := WirS.hide hnb; have HB5 := WirS.hide (((below_drewN H13.out _)).trans (hb.mono ((below_drewN H13.out _)).size)); clear ho hnb hb)
                go_roundw
                case rel => exact ⟨0 + 1, some x, by omega, by first | rfl | go_num, fun h => absurd h (by omega), fun _ => by rw [Nat.add_sub_cancel]; exact HX.out.symm, by rw [List.take_add_one, HX.out, Option.toList_some, List.foldl_append]; exact HO5.out, fun q hq => Nat.le_trans (Nat.le_trans HB1.out.size ((below_drewN H13.out _)).size) (HN5.out q hq), HE.out, HB1.out.trans (HB5.out.mono HB1.out.size)⟩
                case measure => simp [intOf]; omega
      · obtain ⟨y, B', o', hy, hmemy, e, _, hs⟩ := (H2.out.below hB).cell (i := k - 1) (by omega)
        cases e
        have hzz : decide ((0 : Int) < (k : Int)) = true := by simp; omega
        have hzn : 0 < k := by omega
        have hix9 : (0 : Int) ≤ (k : Int) - 1 := by omega
        have hkn : k - 1 < n2 := by omega
        have hkn1 : ((k - 1 : Nat) : Int) < (n2 : Int) := by omega
        have hk1 : (1 : Int) ≤ (k : Int) := by omega
        have hix2 : (k : Int) - 1 < (n2 : Int) := by omega
        have htn : ((k : Int) - 1).toNat = k - 1 := by omega
        have hwr : IntKind.i64.wrap ((k : Int) - 1) = (k : Int) - 1 := IntWalk.i64_in _ (by omega)
        obtain rfl : q = some y := by rw [hq1 (by omega), hy]
        have HFY := WirS.hide (fun (U : World) (hU : Below W1.heap.size W1 U) => (show (U.cell? ⟨B, o + (k - 1) * 5, none⟩ = some (.int .u8 y.a) ∧ U.cell? ⟨B, o + (k - 1) * 5 + 1, none⟩ = some (.int .u8 y.b) ∧ U.cell? ⟨B, o + (k - 1) * 5 + 2, none⟩ = some (.int .u8 y.c) ∧ U.cell? ⟨B, o + (k - 1) * 5 + 3, none⟩ = some (.int .u8 y.d)) from ⟨((H01.out.trans (hU.mono H01.out.size)).cell (p := ⟨B, _, none⟩) HBL.out).trans (hs 0 _ rfl), ((H01.out.trans (hU.mono H01.out.size)).cell (p := ⟨B, _, none⟩) HBL.out).trans (hs 1 _ rfl), ((H01.out.trans (hU.mono H01.out.size)).cell (p := ⟨B, _, none⟩) HBL.out).trans (hs 2 _ rfl), ((H01.out.trans (hU.mono H01.out.size)).cell (p := ⟨B, _, none⟩) HBL.out).trans (hs 3 _ rfl)⟩))
        have HLs := WirS.hide (fun U => less_any U y x (H2.out.ok y hmemy) HXO.out)
        clear hs hy hmemy
        by_cases hl : y.rk < x.rk
        · have hlate : late (some y) x = false := by simp only [late, decide_eq_false_iff_not]; omega
          rw [decide_eq_true hl] at HLs
          by_cases hp1 : x.p < 0
          · have d1 : decide (x.p < 0) = true := by simpa using hp1
            have hnx : nextE 0 (some y) x = 3 := by rw [nextE, hlate, if_neg (by simp), if_pos (.inl hp1)]
            have HE := WirS.hide (show chgE vs none ch = 3 by rw [hE, hnx, if_pos (by decide)])
            have HRC := WirS.hide (show rch vs ch = (3, []) by unfold rch; rw [if_neg (by rw [HCK.out]; simp), if_pos (by rw [HE.out]; decide), HE.out])
            clear hnx
            clear hE hB hq0 hq1 hx hlate
            go_upto_region 9 with fail
            rw [← E1.out]
            try rw [hC]
            clear E1 r0 r1 r2 r3 r4
            obtain ⟨c0, c1, c2, c3, c4⟩ := HFC.out W1 (Below.refl _ _)
            go_upto_region 10 with (go_at_call 146; refine (HFD.out).mono ?_; rintro e u3 ⟨rfl, hb⟩; have H13 := WirS.hide hb; clear hb)
            clear c0 c1 c2 c3 c4
            obtain ⟨c0, c1, c2, c3, c4⟩ := HFC.out u3 H13.out
            obtain ⟨s0, s1, s2, s3⟩ := HFY.out u3 H13.out
            go_region_held3 (fun w' => (w'.cell? ⟨C, 0, none⟩ = some (.int .u8 x.a) ∧ w'.cell? ⟨C, 1, none⟩ = some (.int .u8 x.b) ∧ w'.cell? ⟨C, 2, none⟩ = some (.int .u8 x.c) ∧ w'.cell? ⟨C, 3, none⟩ = some (.int .u8 x.d) ∧ w'.cell? ⟨C, 4, none⟩ = some (.int .i64 x.p)) ∧ (w'.cell? ⟨B, o + (k - 1) * 5, none⟩ = some (.int .u8 y.a) ∧ w'.cell? ⟨B, o + (k - 1) * 5 + 1, none⟩ = some (.int .u8 y.b) ∧ w'.cell? ⟨B, o + (k - 1) * 5 + 2, none⟩ = some (.int .u8 y.c) ∧ w'.cell? ⟨B, o + (k - 1) * 5 + 3, none⟩ = some (.int .u8 y.d))) (go_keep)
              (first | (go_at_call 147; refine (HLs.out _).mono ?_; rintro e u4 ⟨rfl, hb⟩; have hD4 : Below W1.heap.size W1 u4 := H13.out.trans (((below_drewN (Below.refl _ _) 1).trans hb).mono H13.out.size); obtain ⟨f0, f1, f2, f3, f4⟩ := HFC.out u4 hD4; obtain ⟨t0, t1, t2, t3⟩ := HFY.out u4 hD4; have H14 := WirS.hide hD4; clear hb hD4))
            go_wp2_with fail
            refine bodyPost_ret (v := .tuple #[.slice none 0 0, .int .i64 3]) (by simp [results, Try.results54, go_sem]) rfl ?_
            exact ⟨none, 0, 0, by rw [← HR.out, HRC.out], by rw [← HR.out, HRC.out]; exact OwnV.nil _, HB1.out.trans ((H14.out).mono HB1.out.size)⟩
          · by_cases hp2 : 4611686018427387904 < x.p
            · have d1 : decide (x.p < 0) = false := by simpa using hp1
              have d2 : decide (4611686018427387904 < x.p) = true := by simpa using hp2
              have hnx : nextE 0 (some y) x = 3 := by rw [nextE, hlate, if_neg (by simp), if_pos (.inr hp2)]
              have HE := WirS.hide (show chgE vs none ch = 3 by rw [hE, hnx, if_pos (by decide)])
              have HRC := WirS.hide (show rch vs ch = (3, []) by unfold rch; rw [if_neg (by rw [HCK.out]; simp), if_pos (by rw [HE.out]; decide), HE.out])
              clear hnx
              clear hE hB hq0 hq1 hx hlate
              go_upto_region 9 with fail
              rw [← E1.out]
              try rw [hC]
              clear E1 r0 r1 r2 r3 r4
              obtain ⟨c0, c1, c2, c3, c4⟩ := HFC.out W1 (Below.refl _ _)
              go_upto_region 10 with (go_at_call 146; refine (HFD.out).mono ?_; rintro e u3 ⟨rfl, hb⟩; have H13 := WirS.hide hb; clear hb)
              clear c0 c1 c2 c3 c4
              obtain ⟨c0, c1, c2, c3, c4⟩ := HFC.out u3 H13.out
              obtain ⟨s0, s1, s2, s3⟩ := HFY.out u3 H13.out
              go_region_held3 (fun w' => (w'.cell? ⟨C, 0, none⟩ = some (.int .u8 x.a) ∧ w'.cell? ⟨C, 1, none⟩ = some (.int .u8 x.b) ∧ w'.cell? ⟨C, 2, none⟩ = some (.int .u8 x.c) ∧ w'.cell? ⟨C, 3, none⟩ = some (.int .u8 x.d) ∧ w'.cell? ⟨C, 4, none⟩ = some (.int .i64 x.p)) ∧ (w'.cell? ⟨B, o + (k - 1) * 5, none⟩ = some (.int .u8 y.a) ∧ w'.cell? ⟨B, o + (k - 1) * 5 + 1, none⟩ = some (.int .u8 y.b) ∧ w'.cell? ⟨B, o + (k - 1) * 5 + 2, none⟩ = some (.int .u8 y.c) ∧ w'.cell? ⟨B, o + (k - 1) * 5 + 3, none⟩ = some (.int .u8 y.d))) (go_keep)
                (first | (go_at_call 147; refine (HLs.out _).mono ?_; rintro e u4 ⟨rfl, hb⟩; have hD4 : Below W1.heap.size W1 u4 := H13.out.trans (((below_drewN (Below.refl _ _) 1).trans hb).mono H13.out.size); obtain ⟨f0, f1, f2, f3, f4⟩ := HFC.out u4 hD4; obtain ⟨t0, t1, t2, t3⟩ := HFY.out u4 hD4; have H14 := WirS.hide hD4; clear hb hD4))
              go_wp2_with fail
              refine bodyPost_ret (v := .tuple #[.slice none 0 0, .int .i64 3]) (by simp [results, Try.results54, go_sem]) rfl ?_
              exact ⟨none, 0, 0, by rw [← HR.out, HRC.out], by rw [← HR.out, HRC.out]; exact OwnV.nil _, HB1.out.trans ((H14.out).mono HB1.out.size)⟩
            · have d1 : decide (x.p < 0) = false := by simpa using hp1
              have d2 : decide (4611686018427387904 < x.p) = false := by simpa using hp2
              have hnx : nextE 0 (some y) x = 0 := by rw [nextE, hlate, if_neg (by simp), if_neg (by omega)]
              rw [hnx, if_neg (by simp)] at hE
              clear hnx
              by_cases hz : x.p = 0 ∧ ¬ 0 ≤ ix
              · have d3 : (x.p == 0) = true := by simpa using hz.1
                rw [decide_eq_false hz.2] at HFD
                rw [if_pos hz] at hE
                have HE := WirS.hide hE
                clear hz
                have HRC := WirS.hide (show rch vs ch = (10, []) by unfold rch; rw [if_neg (by rw [HCK.out]; simp), if_pos (by rw [HE.out]; decide), HE.out])
                clear hE hB hq0 hq1 hx hlate
                go_upto_region 9 with fail
                rw [← E1.out]
                try rw [hC]
                clear E1 r0 r1 r2 r3 r4
                obtain ⟨c0, c1, c2, c3, c4⟩ := HFC.out W1 (Below.refl _ _)
                go_upto_region 10 with (go_at_call 146; refine (HFD.out).mono ?_; rintro e u3 ⟨rfl, hb⟩; have H13 := WirS.hide hb; clear hb)
                clear c0 c1 c2 c3 c4
                obtain ⟨c0, c1, c2, c3, c4⟩ := HFC.out u3 H13.out
                obtain ⟨s0, s1, s2, s3⟩ := HFY.out u3 H13.out
                go_region_held3 (fun w' => (w'.cell? ⟨C, 0, none⟩ = some (.int .u8 x.a) ∧ w'.cell? ⟨C, 1, none⟩ = some (.int .u8 x.b) ∧ w'.cell? ⟨C, 2, none⟩ = some (.int .u8 x.c) ∧ w'.cell? ⟨C, 3, none⟩ = some (.int .u8 x.d) ∧ w'.cell? ⟨C, 4, none⟩ = some (.int .i64 x.p)) ∧ (w'.cell? ⟨B, o + (k - 1) * 5, none⟩ = some (.int .u8 y.a) ∧ w'.cell? ⟨B, o + (k - 1) * 5 + 1, none⟩ = some (.int .u8 y.b) ∧ w'.cell? ⟨B, o + (k - 1) * 5 + 2, none⟩ = some (.int .u8 y.c) ∧ w'.cell? ⟨B, o + (k - 1) * 5 + 3, none⟩ = some (.int .u8 y.d))) (go_keep)
                  (first | (go_at_call 147; refine (HLs.out _).mono ?_; rintro e u4 ⟨rfl, hb⟩; have hD4 : Below W1.heap.size W1 u4 := H13.out.trans (((below_drewN (Below.refl _ _) 1).trans hb).mono H13.out.size); obtain ⟨f0, f1, f2, f3, f4⟩ := HFC.out u4 hD4; obtain ⟨t0, t1, t2, t3⟩ := HFY.out u4 hD4; have H14 := WirS.hide hD4; clear hb hD4))
                go_wp2_with fail
                refine bodyPost_ret (v := .tuple #[.slice none 0 0, .int .i64 10]) (by simp [results, Try.results54, go_sem]) rfl ?_
                exact ⟨none, 0, 0, by rw [← HR.out, HRC.out], by rw [← HR.out, HRC.out]; exact OwnV.nil _, HB1.out.trans ((H14.out).mono HB1.out.size)⟩
              · by_cases hz0 : x.p = 0
                · have d3 : (x.p == 0) = true := by simpa using hz0
                  have hi0 : 0 ≤ ix := Decidable.byContradiction fun h => hz ⟨hz0, h⟩
                  rw [decide_eq_true hi0] at HFD
                  clear hi0
                  rw [if_neg hz] at hE
                  have HE := WirS.hide hE
                  clear hz hz0
                  clear hE hB hq0 hq1 hx hlate
                  have HCH := WirS.hide (fun (U : World) (hU : Below W1.heap.size W1 U) => changed_k U u7 ((ch.take k).foldl cgd vs) x (HO.out.below (H01.out.trans (hU.mono H01.out.size))) HXO.out (by have h1 := fold_len (ch.take k) vs; have h2 := List.length_take_le k ch; have := HLN.out; omega))
                  go_upto_region 9 with fail
                  rw [← E1.out]
                  try rw [hC]
                  clear E1 r0 r1 r2 r3 r4
                  obtain ⟨c0, c1, c2, c3, c4⟩ := HFC.out W1 (Below.refl _ _)
                  go_upto_region 10 with (go_at_call 146; refine (HFD.out).mono ?_; rintro e u3 ⟨rfl, hb⟩; have H13 := WirS.hide hb; clear hb)
                  clear c0 c1 c2 c3 c4
                  obtain ⟨c0, c1, c2, c3, c4⟩ := HFC.out u3 H13.out
                  obtain ⟨s0, s1, s2, s3⟩ := HFY.out u3 H13.out
                  go_region_held3 (fun w' => (w'.cell? ⟨C, 0, none⟩ = some (.int .u8 x.a) ∧ w'.cell? ⟨C, 1, none⟩ = some (.int .u8 x.b) ∧ w'.cell? ⟨C, 2, none⟩ = some (.int .u8 x.c) ∧ w'.cell? ⟨C, 3, none⟩ = some (.int .u8 x.d) ∧ w'.cell? ⟨C, 4, none⟩ = some (.int .i64 x.p)) ∧ (w'.cell? ⟨B, o + (k - 1) * 5, none⟩ = some (.int .u8 y.a) ∧ w'.cell? ⟨B, o + (k - 1) * 5 + 1, none⟩ = some (.int .u8 y.b) ∧ w'.cell? ⟨B, o + (k - 1) * 5 + 2, none⟩ = some (.int .u8 y.c) ∧ w'.cell? ⟨B, o + (k - 1) * 5 + 3, none⟩ = some (.int .u8 y.d))) (go_keep)
                    (first | (go_at_call 147; refine (HLs.out _).mono ?_; rintro e u4 ⟨rfl, hb⟩; have hD4 : Below W1.heap.size W1 u4 := H13.out.trans (((below_drewN (Below.refl _ _) 1).trans hb).mono H13.out.size); obtain ⟨f0, f1, f2, f3, f4⟩ := HFC.out u4 hD4; obtain ⟨t0, t1, t2, t3⟩ := HFY.out u4 hD4; have H14 := WirS.hide hD4; clear hb hD4))
                  go_wp2_with (go_at_call 148; refine (HCH.out _ (H14.out)).mono ?_; rintro e u5 ⟨v5, rfl, ho, hnb, hb⟩; have HO5 := WirS.hide ho; have HN5 := WirS.hide hnb; have HB5 := WirS.hide ((H14.out).trans (hb.mono (H14.out).size)); clear ho hnb hb)
                  go_roundw
                  case rel => exact ⟨k + 1, some x, by omega, by go_num, fun h => absurd h (by omega), fun _ => by rw [Nat.add_sub_cancel]; exact HX.out.symm, by rw [List.take_add_one, HX.out, Option.toList_some, List.foldl_append]; exact HO5.out, fun q hq => Nat.le_trans (Nat.le_trans HB1.out.size (H14.out).size) (HN5.out q hq), HE.out, HB1.out.trans (HB5.out.mono HB1.out.size)⟩
                  case measure => simp [intOf]; omega
                · have d3 : (x.p == 0) = false := by simpa using hz0
                  rw [if_neg hz] at hE
                  have HE := WirS.hide hE
                  clear hz hz0
                  clear hE hB hq0 hq1 hx hlate
                  have HCH := WirS.hide (fun (U : World) (hU : Below W1.heap.size W1 U) => changed_k U u7 ((ch.take k).foldl cgd vs) x (HO.out.below (H01.out.trans (hU.mono H01.out.size))) HXO.out (by have h1 := fold_len (ch.take k) vs; have h2 := List.length_take_le k ch; have := HLN.out; omega))
                  go_upto_region 9 with fail
                  rw [← E1.out]
                  try rw [hC]
                  clear E1 r0 r1 r2 r3 r4
                  obtain ⟨c0, c1, c2, c3, c4⟩ := HFC.out W1 (Below.refl _ _)
                  go_upto_region 10 with (go_at_call 146; refine (HFD.out).mono ?_; rintro e u3 ⟨rfl, hb⟩; have H13 := WirS.hide hb; clear hb)
                  clear c0 c1 c2 c3 c4
                  obtain ⟨c0, c1, c2, c3, c4⟩ := HFC.out u3 H13.out
                  obtain ⟨s0, s1, s2, s3⟩ := HFY.out u3 H13.out
                  go_region_held3 (fun w' => (w'.cell? ⟨C, 0, none⟩ = some (.int .u8 x.a) ∧ w'.cell? ⟨C, 1, none⟩ = some (.int .u8 x.b) ∧ w'.cell? ⟨C, 2, none⟩ = some (.int .u8 x.c) ∧ w'.cell? ⟨C, 3, none⟩ = some (.int .u8 x.d) ∧ w'.cell? ⟨C, 4, none⟩ = some (.int .i64 x.p)) ∧ (w'.cell? ⟨B, o + (k - 1) * 5, none⟩ = some (.int .u8 y.a) ∧ w'.cell? ⟨B, o + (k - 1) * 5 + 1, none⟩ = some (.int .u8 y.b) ∧ w'.cell? ⟨B, o + (k - 1) * 5 + 2, none⟩ = some (.int .u8 y.c) ∧ w'.cell? ⟨B, o + (k - 1) * 5 + 3, none⟩ = some (.int .u8 y.d))) (go_keep)
                    (first | (go_at_call 147; refine (HLs.out _).mono ?_; rintro e u4 ⟨rfl, hb⟩; have hD4 : Below W1.heap.size W1 u4 := H13.out.trans (((below_drewN (Below.refl _ _) 1).trans hb).mono H13.out.size); obtain ⟨f0, f1, f2, f3, f4⟩ := HFC.out u4 hD4; obtain ⟨t0, t1, t2, t3⟩ := HFY.out u4 hD4; have H14 := WirS.hide hD4; clear hb hD4))
                  go_wp2_with (go_at_call 148; refine (HCH.out _ (H14.out)).mono ?_; rintro e u5 ⟨v5, rfl, ho, hnb, hb⟩; have HO5 := WirS.hide ho; have HN5 := WirS.hide hnb; have HB5 := WirS.hide ((H14.out).trans (hb.mono (H14.out).size)); clear ho hnb hb)
                  go_roundw
                  case rel => exact ⟨k + 1, some x, by omega, by go_num, fun h => absurd h (by omega), fun _ => by rw [Nat.add_sub_cancel]; exact HX.out.symm, by rw [List.take_add_one, HX.out, Option.toList_some, List.foldl_append]; exact HO5.out, fun q hq => Nat.le_trans (Nat.le_trans HB1.out.size (H14.out).size) (HN5.out q hq), HE.out, HB1.out.trans (HB5.out.mono HB1.out.size)⟩
                  case measure => simp [intOf]; omega
        · have hlate : late (some y) x = true := by simp only [late, decide_eq_true_iff]; omega
          rw [decide_eq_false hl] at HLs
          have hnx : nextE 0 (some y) x = 9 := by rw [nextE, hlate, if_pos rfl]
          have HE := WirS.hide (show chgE vs none ch = 9 by rw [hE, hnx, if_pos (by decide)])
          have HRC := WirS.hide (show rch vs ch = (9, []) by unfold rch; rw [if_neg (by rw [HCK.out]; simp), if_pos (by rw [HE.out]; decide), HE.out])
          clear hnx hE hB hq0 hq1 hx hlate
          go_upto_region 9 with fail
          rw [← E1.out]
          try rw [hC]
          clear E1 r0 r1 r2 r3 r4
          obtain ⟨c0, c1, c2, c3, c4⟩ := HFC.out W1 (Below.refl _ _)
          go_upto_region 10 with (go_at_call 146; refine (HFD.out).mono ?_; rintro e u3 ⟨rfl, hb⟩; have H13 := WirS.hide hb; clear hb)
          clear c0 c1 c2 c3 c4
          obtain ⟨c0, c1, c2, c3, c4⟩ := HFC.out u3 H13.out
          obtain ⟨s0, s1, s2, s3⟩ := HFY.out u3 H13.out
          go_region_held3 (fun w' => (w'.cell? ⟨C, 0, none⟩ = some (.int .u8 x.a) ∧ w'.cell? ⟨C, 1, none⟩ = some (.int .u8 x.b) ∧ w'.cell? ⟨C, 2, none⟩ = some (.int .u8 x.c) ∧ w'.cell? ⟨C, 3, none⟩ = some (.int .u8 x.d) ∧ w'.cell? ⟨C, 4, none⟩ = some (.int .i64 x.p)) ∧ (w'.cell? ⟨B, o + (k - 1) * 5, none⟩ = some (.int .u8 y.a) ∧ w'.cell? ⟨B, o + (k - 1) * 5 + 1, none⟩ = some (.int .u8 y.b) ∧ w'.cell? ⟨B, o + (k - 1) * 5 + 2, none⟩ = some (.int .u8 y.c) ∧ w'.cell? ⟨B, o + (k - 1) * 5 + 3, none⟩ = some (.int .u8 y.d))) (go_keep)
            (first | (go_at_call 147; refine (HLs.out _).mono ?_; rintro e u4 ⟨rfl, hb⟩; have hD4 : Below W1.heap.size W1 u4 := H13.out.trans (((below_drewN (Below.refl _ _) 1).trans hb).mono H13.out.size); obtain ⟨f0, f1, f2, f3, f4⟩ := HFC.out u4 hD4; obtain ⟨t0, t1, t2, t3⟩ := HFY.out u4 hD4; have H14 := WirS.hide hD4; clear hb hD4))
          go_wp2_with fail
          refine bodyPost_ret (v := .tuple #[.slice none 0 0, .int .i64 9]) (by simp [results, Try.results54, go_sem]) rfl ?_
          exact ⟨none, 0, 0, by rw [← HR.out, HRC.out], by rw [← HR.out, HRC.out]; exact OwnV.nil _, HB1.out.trans (H14.out.mono HB1.out.size)⟩
    · have hd : ch.drop k = [] := List.drop_eq_nil_of_le (by rw [HLN2.out]; omega)
      have hkl : ¬ (k : Int) < (n2 : Int) := by omega
      rw [hd, chgE] at hE
      have htk : ch.take k = ch := List.take_of_length_le (by rw [HLN2.out]; omega)
      rw [htk] at HO
      obtain ⟨va, vc, rfl⟩ := HO.out.len_of
      obtain ⟨rn, hrn⟩ : ∃ m, (ch.foldl cgd vs).length = m := ⟨_, rfl⟩
      have hrn2 : rn ≤ 1000 := by have h1 := fold_len ch vs; have := HLN.out; have := HLN2.out; omega
      rw [hrn] at HO HN ⊢
      have hR : rch vs ch = if rn = 0 then (6, []) else if 64 < rn then (7, []) else (0, ch.foldl cgd vs) := by unfold rch; rw [if_neg (by rw [HCK.out]; simp), if_neg (by rw [hE]; simp), hrn]
      clear hq0 hq1 hd htk hB
      by_cases h0 : rn = 0
      · rw [if_pos h0] at hR
        have HRC := WirS.hide hR
        have e1 : ((rn : Int) == 0) = true := by simp; omega
        clear hR hE hrn
        go_wp2_with fail
        refine bodyPost_ret (v := .tuple #[.slice none 0 0, .int .i64 6]) (by simp [results, Try.results54, go_sem]) rfl ?_
        exact ⟨none, 0, 0, by rw [← HR.out, HRC.out], by rw [← HR.out, HRC.out]; exact OwnV.nil _, HB.out⟩
      · rw [if_neg h0] at hR
        have e1 : ((rn : Int) == 0) = false := by simp; omega
        by_cases h6 : 64 < rn
        · rw [if_pos h6] at hR
          have HRC := WirS.hide hR
          have e2 : (64 : Int) < (rn : Int) := by omega
          clear hR hE hrn
          go_wp2_with fail
          refine bodyPost_ret (v := .tuple #[.slice none 0 0, .int .i64 7]) (by simp [results, Try.results54, go_sem]) rfl ?_
          exact ⟨none, 0, 0, by rw [← HR.out, HRC.out], by rw [← HR.out, HRC.out]; exact OwnV.nil _, HB.out⟩
        · rw [if_neg h6] at hR
          have HRC := WirS.hide hR
          have e2 : ¬ (64 : Int) < (rn : Int) := by omega
          clear hR hE hrn
          go_wp2_with fail
          refine bodyPost_ret (v := .tuple #[.slice va rn vc, .int .i64 0]) (by simp [results, Try.results54, go_sem]) rfl ?_
          exact ⟨va, rn, vc, by rw [← HR.out, HRC.out], by rw [← HR.out, HRC.out]; exact HO.out, HB.out⟩
theorem rchange_any (w : World) (la ca : Option Addr) (n lc n2 cc : Nat) (vs ch : List Vd) (h : VIn w la n lc vs) (h2 : VIn w ca n2 cc ch) (hn2 : n2 ≤ 80) :
    Calls Try.prog 54 #[.slice la n lc, .slice ca n2 cc] w (RhP w (rch vs ch)) := by
  by_cases hc : chk vs = 0
  · exact rchange_ok w la ca n lc n2 cc vs ch h h2 hn2 hc
  · exact rchange_bad w la ca n lc n2 cc vs ch h _ rfl hc
end ValRD
end Go.Proofs.Ytackcnncjeajpaa

namespace Go.Proofs.Ytackcnncjeajpaa
namespace ValRE
open Go.RowKit
open BlkM WirM WirS ValA ValB ValC ValD ValE ValH ValM ValN ValP ValQ ValRC ValRD ValX

theorem key_rk {x y : Vd} (h : x.key = y.key) : x.rk = y.rk := by
  unfold Vd.key at h
  simp only [List.cons.injEq, and_true] at h
  unfold Vd.rk
  omega
theorem rk_key {x y : Vd} (hx : x.ok) (hy : y.ok) (h : x.rk = y.rk) : x.key = y.key := by
  obtain ⟨a, b, c, d⟩ := Vd.key_eq hx hy h
  unfold Vd.key
  rw [a, b, c, d]
theorem cgo_true (c : Vd) : ∀ l : List Vd, cgo c l true = l.filter (fun v => !decide (v.key = c.key))
  | [] => by simp [cgo]
  | v :: l => by
    rw [cgo, if_neg (by simp), cgo_true c l, kk]
    by_cases h : v.key = c.key <;> simp [h]
theorem cgo_self (c : Vd) (l : List Vd) (h : ∀ x ∈ l, c.rk < x.rk) : cgo c l true = l := by
  rw [cgo_true]
  refine List.filter_eq_self.2 (fun x hx => ?_)
  have h1 := h x hx
  have h2 : ¬ x.key = c.key := fun e => by have := key_rk e; omega
  simp [h2]
theorem cgo_big (c : Vd) : ∀ l : List Vd, (∀ x ∈ l, c.rk < x.rk) → cgo c l false = c :: l
  | [], _ => by simp [cgo]
  | v :: l, h => by rw [cgo, if_pos ⟨rfl, h v (by simp)⟩, cgo_self c l (fun x hx => h x (by simp [hx]))]
theorem cgo_false (c : Vd) (hc : c.ok) : ∀ l : List Vd, Up l → (∀ x ∈ l, x.ok) → cgo c l false = mrg l [c]
  | [], _, _ => by rw [mrg_nil_left]; simp [cgo]
  | v :: l, hu, hok => by
    obtain ⟨h1, h2⟩ := List.pairwise_cons.1 hu
    by_cases hl : c.rk < v.rk
    · rw [cgo, if_pos ⟨rfl, hl⟩, mrg_gt l [] hl, mrg_nil_right, cgo_self c l (fun x hx => by have := h1 x hx; omega)]
    · rw [cgo, if_neg (by rintro ⟨_, h⟩; exact hl h), kk]
      by_cases he : v.rk = c.rk
      · rw [if_pos (rk_key (hok v (by simp)) hc he), List.nil_append, mrg_eq l [] he, mrg_nil_right, cgo_big c l (fun x hx => by have := h1 x hx; omega)]
      · rw [if_neg (fun e => he (key_rk e)), cgo_false c hc l h2 (fun x hx => hok x (by simp [hx])), mrg_lt l [] (by omega)]
        rfl
theorem cgd_res {l : List Vd} {c : Vd} (hu : Up l) (hok : ∀ x ∈ l, x.ok) (hp : ∀ x ∈ l, x.p ≠ 0) (hc : c.ok) : cgd l c = res l [c] := by
  have u1 : Up [c] := List.pairwise_singleton _ _
  unfold cgd
  by_cases h0 : c.p = 0
  · rw [show (c.p == 0) = true by simpa using h0, cgo_true]
    refine up_ext (hu.sublist List.filter_sublist) (up_res hu u1) (fun x => ?_)
    rw [mem_res hu u1, List.mem_filter]
    constructor
    · rintro ⟨hx, hk⟩
      refine ⟨.inr ⟨hx, fun z hz e => ?_⟩, hp x hx⟩
      rw [List.mem_singleton.1 hz] at e
      have := rk_key hc (hok x hx) e
      simp [this] at hk
    · rintro ⟨hx | ⟨hx, hn⟩, hne⟩
      · rw [List.mem_singleton.1 hx] at hne
        exact absurd h0 hne
      · refine ⟨hx, ?_⟩
        have : ¬ x.key = c.key := fun e => hn c (by simp) (key_rk e).symm
        simp [this]
  · rw [show (c.p == 0) = false by simpa using h0, cgo_false c hc l hu hok]
    refine (List.filter_eq_self.2 (fun x hx => ?_)).symm
    rcases mrg_mem _ _ x hx with hx | hx
    · simpa using hp x hx
    · rw [List.mem_singleton.1 hx]
      simpa using h0
theorem res_app {l a : List Vd} {x : Vd} (hu : Up l) (ha : Up (a ++ [x])) : res (res l a) [x] = res l (a ++ [x]) := by
  obtain ⟨u1, u2, hd⟩ := List.pairwise_append.1 ha
  refine up_ext (up_res (up_res hu u1) u2) (up_res hu ha) (fun z => ?_)
  rw [mem_res (up_res hu u1) u2, mem_res hu u1, mem_res hu ha]
  simp only [List.mem_append]
  constructor
  · rintro ⟨hz | ⟨⟨hz | ⟨hz, hn⟩, _⟩, hn2⟩, h0⟩
    · exact ⟨.inl (.inr hz), h0⟩
    · exact ⟨.inl (.inl hz), h0⟩
    · exact ⟨.inr ⟨hz, fun y hy => hy.elim (hn y) (hn2 y)⟩, h0⟩
  · rintro ⟨(hz | hz) | ⟨hz, hn⟩, h0⟩
    · exact ⟨.inr ⟨⟨.inl hz, h0⟩, fun y hy e => by have := hd z hz y hy; omega⟩, h0⟩
    · exact ⟨.inl hz, h0⟩
    · exact ⟨.inr ⟨⟨.inr ⟨hz, fun y hy => hn y (.inl hy)⟩, h0⟩, fun y hy => hn y (.inr hy)⟩, h0⟩
theorem fold_res {vs ch : List Vd} (hu : Up vs) (hok : ∀ x ∈ vs, x.ok) (hp : ∀ x ∈ vs, x.p ≠ 0) (hc : Up ch) (hco : ∀ x ∈ ch, x.ok) : ∀ k, (ch.take k).foldl cgd vs = res vs (ch.take k)
  | 0 => by
    rw [List.take_zero, List.foldl_nil]
    unfold res
    rw [mrg_nil_right]
    exact (List.filter_eq_self.2 (fun x hx => by simpa using hp x hx)).symm
  | k + 1 => by
    have ih := fold_res hu hok hp hc hco k
    rcases hx : ch[k]? with _ | x
    · rw [List.take_add_one, hx, Option.toList_none, List.append_nil]
      exact ih
    · have hxo := hco x (List.mem_of_getElem? hx)
      have ut : Up (ch.take k) := hc.sublist (List.take_sublist k ch)
      have ut1 : Up (ch.take (k + 1)) := hc.sublist (List.take_sublist _ ch)
      rw [List.take_add_one, hx, Option.toList_some] at ut1
      rw [List.take_add_one, hx, Option.toList_some, List.foldl_append, ih, List.foldl_cons, List.foldl_nil, ← res_app hu ut1]
      refine cgd_res (up_res hu ut) (fun z hz => ?_) (fun z hz => ((mem_res hu ut z).1 hz).2) hxo
      rcases ((mem_res hu ut z).1 hz).1 with h | ⟨h, _⟩
      · exact hco z (List.mem_of_mem_take h)
      · exact hok z h
theorem rch_eq {vs ch : List Vd} (hok : ∀ x ∈ vs, x.ok) (hco : ∀ x ∈ ch, x.ok) : rch vs ch = chgd vs ch := by
  unfold rch chgd
  by_cases h1 : chk vs ≠ 0
  · rw [if_pos h1, if_pos h1]
  · rw [if_neg h1, if_neg h1]
    by_cases h2 : chgE vs none ch ≠ 0
    · rw [if_pos h2, if_pos h2]
    · rw [if_neg h2, if_neg h2]
      obtain ⟨_, _, hu, hp⟩ := (chk_up vs).1 (by simpa using h1)
      have hc := ((asc_up ch none).1 ((chgE_zero vs ch none).1 (by simpa using h2)).1).1
      have := fold_res hu hok (fun x hx => by have := hp x hx; omega) hc hco ch.length
      rw [List.take_length] at this
      rw [this]
      rfl
def MidOv (w : World) (T : TypeId) (g n : Nat) (i : Value) (U : World) : Prop := ∃ (k : Nat) (cur : Array Value), k ≤ n ∧ i = .int .i64 (k : Int) ∧ U.heap[g]? = some (.cells cur T) ∧ n * 5 ≤ cur.size ∧ Fr (fun k => k = g) w U
theorem row_cell {U : World} {g j : Nat} {cur : Array Value} {T : TypeId} (h : U.heap[g]? = some (.cells cur T)) (hj : j < cur.size) : (∃ v, U.cell? ⟨g, j, none⟩ = some v) ∧ U.frozen? ⟨g, j, none⟩ = false := by
  refine ⟨⟨cur[j], ?_⟩, by simp [World.frozen?, h]⟩
  simp only [World.cell?, h]
  simp [hj]
set_option maxRecDepth 10000 in
set_option maxHeartbeats 2000000 in
theorem overv_any (w : World) (a : Option Addr) (n c : Nat) (vs : List Vd) (h : OwnV w (.slice a n c) vs) (hn : n ≤ 1000) :
    Calls Try.prog 51 #[.slice a n c] w fun e w' => e = .returned (.tuple #[]) ∧ Fr (fun k => (Value.slice a n c).ownBlock = some k) w w' := by
  have hl := h.vin.len
  by_cases h0 : n = 0
  · subst h0
    clear h hl
    go_enter Try.func51, Try.ntmps51
    go_wp2_with fail
    refine wp_loop_rounds 1 ?_
    rw [rounds_succ]
    go_wp2_with fail
    first | go_end0 | refine bodyPost_ret (results_none rfl _ _ _) rfl ?_
    exact ⟨rfl, Fr.refl _ _⟩
  · obtain ⟨g, cur, rfl, hg, hs⟩ : ∃ g cur, a = some ⟨g, 0, none⟩ ∧ w.heap[g]? = some (.cells cur 100) ∧ n * 5 ≤ cur.size := by
      obtain ⟨⟨hl2, ⟨e, _⟩ | ⟨g, cap, cur, e, hb, hg, h1, h2, h3, h4⟩⟩, _⟩ := h
      · cases e
        exact absurd rfl h0
      · cases e
        exact ⟨g, cur, rfl, hg, by omega⟩
    have HST := WirS.hide (show MidOv w 100 g n (.int .i64 0) w from ⟨0, cur, Nat.zero_le _, rfl, hg, hs, Fr.refl _ _⟩)
    clear hl hg hs h
    go_enter Try.func51, Try.ntmps51
    go_wp2_with fail
    go_loopw [2] (fun i wr => MidOv w 100 g n i wr) (fun i _ => n - (intOf i).toNat)
    case atStart => exact HST.out
    case round =>
      clear HST
      obtain ⟨k, cur, hk, rfl, hg, hs, hf⟩ := hrel
      have HF := WirS.hide hf
      by_cases hlt : k < n
      · obtain ⟨⟨v0, c0⟩, f0⟩ := row_cell (j := k * 5) hg (by omega)
        obtain ⟨⟨v1, c1⟩, f1⟩ := row_cell (j := k * 5 + 1) hg (by omega)
        obtain ⟨⟨v2, c2⟩, f2⟩ := row_cell (j := k * 5 + 2) hg (by omega)
        obtain ⟨⟨v3, c3⟩, f3⟩ := row_cell (j := k * 5 + 3) hg (by omega)
        obtain ⟨⟨v4, c4⟩, f4⟩ := row_cell (j := k * 5 + 4) hg (by omega)
        have hkl : (k : Int) < (n : Int) := by omega
        have HG := WirS.hide hg
        have HS := WirS.hide hs
        clear hg hs hf
        go_wp2_with fail
        go_roundw
        case rel =>
          refine ⟨k + 1, _, by omega, by go_num, heap_setCell_same _ _ _ _ _ _ (heap_setCell_same _ _ _ _ _ _ (heap_setCell_same _ _ _ _ _ _ (heap_setCell_same _ _ _ _ _ _ (heap_setCell_same _ _ _ _ _ _ HG.out)))), by simpa using HS.out, ?_⟩
          exact ((((HF.out.setCell g _ _ (fun _ => rfl)).setCell g _ _ (fun _ => rfl)).setCell g _ _ (fun _ => rfl)).setCell g _ _ (fun _ => rfl)).setCell g _ _ (fun _ => rfl)
        case measure => simp [intOf]; omega
      · have hkl : ¬ (k : Int) < (n : Int) := by omega
        clear hg hs hf
        go_wp2_with fail
        first | go_end0 | refine bodyPost_ret (results_none rfl _ _ _) rfl ?_
        exact ⟨rfl, HF.out.mono (fun q _ hq => by rw [hq]; rfl)⟩
end ValRE
end Go.Proofs.Ytackcnncjeajpaa

namespace Go.Proofs.Ytackcnncjeajpaa
namespace ValCH
open Go.RowKit
open BlkM WirM WirS ValA ValB ValC ValD ValE ValP ValQ ValR ValS ValT ValX ValY ValRD ValRE

theorem VIn.keep {X : Nat → Prop} {w U U' : World} {a : Option Addr} {n c : Nat} {vs : List Vd} (h : VIn w a n c vs) (hU : VIn U a n c vs) (hf : Fr X U U') (hX : ∀ k, X k → w.heap.size ≤ k) : VIn U' a n c vs := by
  by_cases h0 : n = 0
  · subst h0
    have hl := h.len
    obtain rfl : vs = [] := List.eq_nil_of_length_eq_zero hl
    exact VIn.nil _ _ _ h.small
  · obtain ⟨B, o, rfl, hB, _⟩ := h.row (by omega)
    refine hU.fr hf (fun k hk hx => ?_)
    have := hX k hx
    simp [Value.ownBlock] at hk
    omega
theorem kc (U : World) (a a2 : Option Addr) (n c n2 c2 : Nat) (vs ch rs : List Vd) (er : Int) (rn : Nat) (h : VIn U a n c vs) (h2 : VIn U a2 n2 c2 ch) (hn2 : n2 ≤ 1000000) (he : chgd vs ch = (er, rs)) (hr : rs.length = rn) :
    Calls Try.prog 53 #[.slice a n c, .slice a2 n2 c2] U fun e w' => ∃ va vc, e = .returned (.tuple #[.slice va rn vc, .int .i64 er]) ∧ OwnV w' (.slice va rn vc) rs ∧ (∀ k, (Value.slice va rn vc).ownBlock = some k → U.heap.size ≤ k) ∧ Below U.heap.size U w' := by
  refine (change_any U a a2 n c n2 c2 vs ch h h2 hn2).mono ?_
  rintro e w' ⟨va, vn, vc, rfl, ho, hk, hb⟩
  rw [he] at ho ⊢
  have hl := ho.vin.len
  rw [hr] at hl
  subst hl
  exact ⟨_, _, rfl, ho, hk, hb⟩
theorem kr (U : World) (a a2 : Option Addr) (n c n2 c2 : Nat) (vs ch rs : List Vd) (er : Int) (rn : Nat) (h : VIn U a n c vs) (h2 : VIn U a2 n2 c2 ch) (hn2 : n2 ≤ 80) (he : rch vs ch = (er, rs)) (hr : rs.length = rn) :
    Calls Try.prog 54 #[.slice a n c, .slice a2 n2 c2] U fun e w' => ∃ va vc, e = .returned (.tuple #[.slice va rn vc, .int .i64 er]) ∧ VIn w' va rn vc rs ∧ Below U.heap.size U w' := by
  refine (rchange_any U a a2 n c n2 c2 vs ch h h2 hn2).mono ?_
  rintro e w' ⟨va, vn, vc, rfl, ho, hb⟩
  rw [he] at ho ⊢
  have hv := ho.vin
  have hl := hv.len
  rw [hr] at hl
  subst hl
  exact ⟨_, _, rfl, hv, hb⟩
theorem changes_long (w : World) (la ca : Option Addr) (n lc n2 cc : Nat) (h : 80 < n ∨ n ≤ 80 ∧ 80 < n2) :
    Calls Try.prog 10 #[.slice la n lc, .slice ca n2 cc] w fun e w' => e = .returned (.bool true) ∧ Below w.heap.size w w' := by
  rcases h with h | ⟨h, h2⟩
  · have g1 : (80 : Int) < (n : Int) := by omega
    go_enter Try.func10, Try.ntmps10
    go_wp2_with (go_at_call 47; refine (awake_any _).mono ?_; rintro e u ⟨rfl, hb⟩; have HB := WirS.hide hb; clear hb)
    go_ret
    exact ⟨rfl, HB.out⟩
  · have g1 : ¬ (80 : Int) < (n : Int) := by omega
    have g2 : (80 : Int) < (n2 : Int) := by omega
    go_enter Try.func10, Try.ntmps10
    go_wp2_with (go_at_call 47; refine (awake_any _).mono ?_; rintro e u ⟨rfl, hb⟩; have HB := WirS.hide hb; clear hb)
    go_ret
    exact ⟨rfl, HB.out⟩
set_option maxRecDepth 10000 in
set_option maxHeartbeats 20000000 in
theorem changes_row (w : World) (la : Option Addr) (n lc : Nat) (vs : List Vd) (ca : Option Addr) (n2 cc : Nat) (ch : List Vd) (h : VIn w la n lc vs) (h2 : VIn w ca n2 cc ch) :
    Calls Try.prog 10 #[.slice la n lc, .slice ca n2 cc] w fun e w' => e = .returned (.bool true) ∧ Below w.heap.size w w' := by
  by_cases hn : 80 < n
  · exact changes_long w la ca n lc n2 cc (.inl hn)
  by_cases hn2 : 80 < n2
  · exact changes_long w la ca n lc n2 cc (.inr ⟨by omega, hn2⟩)
  have g1 : ¬ (80 : Int) < (n : Int) := by omega
  have g2 : ¬ (80 : Int) < (n2 : Int) := by omega
  obtain ⟨er, rs, hcd⟩ : ∃ er rs, chgd vs ch = (er, rs) := ⟨_, _, rfl⟩
  have hrc : rch vs ch = (er, rs) := by rw [rch_eq h.ok h2.ok, hcd]
  obtain ⟨rn, hrn⟩ : ∃ m, rs.length = m := ⟨_, rfl⟩
  have hrn64 : rn ≤ 64 := by
    rw [← hrn]
    have e2 : rs = (chgd vs ch).2 := by rw [hcd]
    rw [e2]
    unfold chgd
    repeat' split
    all_goals first | (simp; done) | (simp only []; omega)
  have HCD := WirS.hide hcd
  have HRC := WirS.hide hrc
  have HRN := WirS.hide hrn
  have HL := WirS.hide h
  have HC := WirS.hide h2
  have HHY := WirS.hide (And.intro hn (And.intro hn2 hrn64))
  clear h h2 hcd hrc hrn hn hn2 hrn64
  go_enter Try.func10, Try.ntmps10
  go_upto_region 4 with (first
    | (go_at_call 52; with_reducible refine (copyv_any _ la n lc vs HL.out (by have := HHY.out; omega)).mono ?_; rintro e u1 ⟨ia, ic, rfl, ho, _, hb⟩; have HI1 := WirS.hide ho; have H1 := WirS.hide hb; clear ho hb)
    | (go_at_call 52; with_reducible refine (copyv_any _ ca n2 cc ch (HC.out.below H1.out) (by have := HHY.out; omega)).mono ?_; rintro e u2 ⟨ba, bc, rfl, ho, _, hb⟩; have HB2 := WirS.hide ho; have HI2 := WirS.hide (HI1.out.below hb); have H2 := WirS.hide (H1.out.trans (hb.mono H1.out.size)); clear ho hb))
  go_upto_region 5 with (go_at_call 53; refine (kc _ ia ba n ic n2 bc vs ch rs er rn HI2.out.vin HB2.out.vin (by have := HHY.out; omega) HCD.out HRN.out).mono ?_; rintro e u3 ⟨aa, ac, rfl, ho, hk, hb⟩; have HA3 := WirS.hide ho; have HK := WirS.hide hk; have H23 := WirS.hide hb; have H3 := WirS.hide (H2.out.trans (hb.mono H2.out.size)); clear ho hk hb)
  go_upto_region 6 with (go_at_call 54; refine (kr _ la ca n lc n2 cc vs ch rs er rn (HL.out.below H3.out) (HC.out.below H3.out) (by have := HHY.out; omega) HRC.out HRN.out).mono ?_; rintro e u4 ⟨xa, xc, rfl, hv, hb⟩; have HX4 := WirS.hide hv; have HA4 := WirS.hide (HA3.out.below hb); have H24 := WirS.hide (H23.out.trans (hb.mono H23.out.size)); have H4 := WirS.hide (H3.out.trans (hb.mono H3.out.size)); clear hv hb)
  have hq : (er == er) = true := by simp
  go_upto_region 7 with (go_at_call 50; refine (same_any _ aa xa rn ac xc rs HA4.out.vin HX4.out).mono ?_; rintro e u5 ⟨rfl, hb⟩; have HA5 := WirS.hide (HA4.out.below hb); have H25 := WirS.hide (H24.out.trans (hb.mono H24.out.size)); have H5 := WirS.hide (H4.out.trans (hb.mono H4.out.size)); clear hb)
  go_upto_region 8 with (go_at_call 51; refine (overv_any _ aa rn ac rs HA5.out (by have := HHY.out; omega)).mono ?_; rintro e u6 ⟨rfl, hf⟩; have HF := WirS.hide hf; clear hf)
  have hI6 : VIn u6 ia n ic vs := ((HI2.out.below H25.out).fr HF.out (fun k hk hx => by
    have h1 := HI2.out.lt k hk
    have h2 := HK.out k hx
    omega)).vin
  have hB6 : VIn u6 ba n2 bc ch := ((HB2.out.below H25.out).fr HF.out (fun k hk hx => by
    have h1 := HB2.out.lt k hk
    have h2 := HK.out k hx
    omega)).vin
  have hL6 : VIn u6 la n lc vs := VIn.keep HL.out (HL.out.below H5.out) HF.out (fun k hx => Nat.le_trans H2.out.size (HK.out k hx))
  have hC6 : VIn u6 ca n2 cc ch := VIn.keep HC.out (HC.out.below H5.out) HF.out (fun k hx => Nat.le_trans H2.out.size (HK.out k hx))
  have H6 := WirS.hide (H5.out.trans (HF.out.below H5.out.size (fun k hk hx => by
    have h1 := HK.out k hx
    have h2 := H2.out.size
    omega)))
  have HI6 := WirS.hide hI6
  have HB6 := WirS.hide hB6
  have HL6 := WirS.hide hL6
  have HC6 := WirS.hide hC6
  clear hI6 hB6 hL6 hC6 HI1 HI2 HB2 HA3 HA4 HA5 HK HF HX4
  go_wp2_with (first
    | (go_at_call 50; with_reducible refine (same_any _ ia la n ic lc vs HI6.out HL6.out).mono ?_; rintro e u7 ⟨rfl, hb⟩; have HB7 := WirS.hide (HB6.out.below hb); have HC7 := WirS.hide (HC6.out.below hb); have H7 := WirS.hide (H6.out.trans (hb.mono H6.out.size)); clear hb)
    | (go_at_call 50; with_reducible refine (same_any _ ba ca n2 bc cc ch HB7.out HC7.out).mono ?_; rintro e u8 ⟨rfl, hb⟩; have H8 := WirS.hide (H7.out.trans (hb.mono H7.out.size)); clear hb)
    | (go_at_call 47; refine (awake_any _).mono ?_; rintro e u9 ⟨rfl, hb⟩; have H9 := WirS.hide (H8.out.trans (hb.mono H8.out.size)); clear hb))
  go_ret
  exact ⟨rfl, H9.out⟩
end ValCH
end Go.Proofs.Ytackcnncjeajpaa

