/-
  WirA, WirB, WirC, WirD, WirE, WirF, in one text.
-/
import Derived.Test.YthcemghamdmjmaaPkA
import Derived.Shelf.Strconv.Itoa0
import Derived.Lib.ConvBytes
namespace Go.Proofs.Ythcemghamdmjmaa
namespace WirA
open Go.RowKit
open BlkM WirM WirS

/-- A writer, as NewWriter returned it: its block, its limit, its bytes, its error. -/
def wcells (W : Nat) (lim : Int) (v : Value) (err : Int) : List Value := [.pointer (some ⟨W, 0, none⟩), .int .i64 lim, v, .int .i64 err]
structure WSt (w : World) (W : Nat) (lim : Int) (v : Value) (zs : List Int) (err : Int) : Prop where
  at' : At w W 59 (wcells W lim v err)
  own : Own w 5 v zs
  off : v.ownBlock ≠ some W
  low : 0 ≤ lim
  high : lim ≤ 1048576
  fits : (zs.length : Int) ≤ lim
/-- The blocks that a writer may change. -/
def Xw (W : Nat) (v : Value) (k : Nat) : Prop := k = W ∨ v.ownBlock = some k
theorem WSt.lt {w : World} {W : Nat} {lim : Int} {v : Value} {zs : List Int} {err : Int} (h : WSt w W lim v zs err) : W < w.heap.size := h.at'.lt
theorem WSt.fr {X : Nat → Prop} {w w' : World} {W : Nat} {lim : Int} {v : Value} {zs : List Int} {err : Int} (h : WSt w W lim v zs err) (hf : Fr X w w') (hX : ∀ k, Xw W v k → ¬ X k) : WSt w' W lim v zs err :=
  ⟨At.fr h.at' hf (hX W (.inl rfl)), h.own.fr hf (fun k hk => hX k (.inr hk)), h.off, h.low, h.high, h.fits⟩
theorem WSt.below {w w' : World} {W : Nat} {lim : Int} {v : Value} {zs : List Int} {err : Int} (h : WSt w W lim v zs err) (hb : Below w.heap.size w w') : WSt w' W lim v zs err :=
  h.fr (X := fun _ => False) (Fr.of_below hb) (fun _ _ h => h)
/-- What one call may do to the world. -/
def Step (w : World) (W : Nat) (v : Value) (w' : World) (v' : Value) : Prop := Fr (Xw W v) w w' ∧ NewOr w v v'
theorem Step.refl (w : World) (W : Nat) (v : Value) : Step w W v w v := ⟨Fr.refl _ _, NewOr.refl _ _⟩
theorem Step.trans {w w1 w2 : World} {W : Nat} {v v1 v2 : Value} (h : Step w W v w1 v1) (k : Step w1 W v1 w2 v2) : Step w W v w2 v2 :=
  ⟨h.1.trans' k.1 (fun i hi hx => by
    rcases hx with rfl | hx
    · exact .inl rfl
    · rcases h.2 i hx with hx | hx
      · exact .inr hx
      · omega), fun i hi => by
    rcases k.2 i hi with hx | hx
    · exact h.2 i hx
    · exact .inr (Nat.le_trans h.1.size hx)⟩
theorem Step.of_below {w w' : World} {W : Nat} {v : Value} (h : Below w.heap.size w w') : Step w W v w' v := ⟨Fr.of_below h, NewOr.refl _ _⟩
def putE (lim err : Int) (zs : List Int) (n : Nat) : Int := if err ≠ 0 then err else if lim < (zs.length : Int) + (n : Int) then 4 else 0
def putZ (lim err : Int) (zs news : List Int) : List Int := if putE lim err zs news.length = 0 then zs ++ news else zs
/-- What a writing call answers, and what there is then. -/
def Wrote (w : World) (W : Nat) (lim : Int) (v : Value) (zs' : List Int) (err' : Int) (e : Ending) (w' : World) : Prop :=
  e = .returned (.int .i64 err') ∧ ∃ v', WSt w' W lim v' zs' err' ∧ Step w W v w' v'
/-- No writer: nil, or one that nobody made. -/
def NoW (w : World) (p : Option Addr) : Prop := p = none ∨ ∃ S, p = some ⟨S, 0, none⟩ ∧ w.cell? ⟨S, 0, none⟩ = some (.pointer none)

theorem state_any (w : World) (W : Nat) (lim : Int) (v : Value) (zs : List Int) (err : Int) (h : WSt w W lim v zs err) : Calls Try.prog 112 #[.pointer (some ⟨W, 0, none⟩)] w fun e w' => e = .returned (.int .i64 err) ∧ w = w' := by
  have c0 : w.cell? ⟨W, 0, none⟩ = some (.pointer (some ⟨W, 0, none⟩)) := by rw [h.at'.cell]; rfl
  have c3 : w.cell? ⟨W, 3, none⟩ = some (.int .i64 err) := by rw [h.at'.cell]; rfl
  have hq := ptr_ne Try.underlying25 (by kernel_rfl) W
  clear h
  go_enter Try.func112, Try.ntmps112
  go_wp2
  go_ret
  exact ⟨rfl, rfl⟩
theorem state_nil (w : World) : Calls Try.prog 112 #[.pointer none] w fun e w' => e = .returned (.int .i64 1) ∧ w = w' := by
  go_enter Try.func112, Try.ntmps112
  go_wp2
  go_ret
  exact ⟨rfl, rfl⟩
theorem state_no (w : World) (S : Nat) (c0 : w.cell? ⟨S, 0, none⟩ = some (.pointer none)) : Calls Try.prog 112 #[.pointer (some ⟨S, 0, none⟩)] w fun e w' => e = .returned (.int .i64 1) ∧ w = w' := by
  have hq := nil_ne Try.underlying25 S
  go_enter Try.func112, Try.ntmps112
  go_wp2
  go_ret
  exact ⟨rfl, rfl⟩
theorem state_none (w : World) (p : Option Addr) (h : NoW w p) : Calls Try.prog 112 #[.pointer p] w fun e w' => e = .returned (.int .i64 1) ∧ w = w' := by
  rcases h with rfl | ⟨S, rfl, hc⟩
  · exact state_nil w
  · exact state_no w S hc

theorem fail_none (w : World) (p : Option Addr) (c : Int) (h : NoW w p) : Calls Try.prog 154 #[.pointer p, .int .i64 c] w fun e w' => e = .returned (.int .i64 1) ∧ w = w' := by
  have H := hide (fun W (k : NoW W p) => state_none W p k)
  have HN := hide h
  clear h
  go_enter Try.func154, Try.ntmps154
  go_wp2_with ((go_at_call 112; refine (H.out _ HN.out).mono ?_; rintro e w1 ⟨rfl, rfl⟩))
  go_ret
  exact ⟨rfl, rfl⟩
theorem fail_err (w : World) (W : Nat) (lim : Int) (v : Value) (zs : List Int) (err c : Int) (h : WSt w W lim v zs err) (he : err ≠ 0) : Calls Try.prog 154 #[.pointer (some ⟨W, 0, none⟩), .int .i64 c] w fun e w' => e = .returned (.int .i64 err) ∧ w = w' := by
  have H := hide (state_any w W lim v zs err h)
  have hb : (err != 0) = true := by simpa using he
  have hb2 : (err == 0) = false := by simpa using he
  clear h he
  go_enter Try.func154, Try.ntmps154
  go_wp2_with ((go_at_call 112; refine (H.out).mono ?_; rintro e w1 ⟨rfl, rfl⟩))
  go_ret
  exact ⟨rfl, rfl⟩
theorem fail_ok (w : World) (W : Nat) (lim : Int) (v : Value) (zs : List Int) (c : Int) (h : WSt w W lim v zs 0) : Calls Try.prog 154 #[.pointer (some ⟨W, 0, none⟩), .int .i64 c] w (Wrote w W lim v zs c) := by
  have H := hide (state_any w W lim v zs 0 h)
  have c3 : w.cell? ⟨W, 3, none⟩ = some (.int .i64 0) := by rw [h.at'.cell]; rfl
  have f3 : w.frozen? ⟨W, 3, none⟩ = false := h.at'.frozen 3
  have HH := hide h
  clear h
  go_enter Try.func154, Try.ntmps154
  go_wp2_with ((go_at_call 112; refine (H.out).mono ?_; rintro e w1 ⟨rfl, rfl⟩))
  go_ret
  have h := HH.out
  have hF : Fr (Xw W v) w (w.setCell ⟨W, 3, none⟩ (.int .i64 c)) := (Fr.refl _ w).setCell W 3 _ (fun _ => .inl rfl)
  exact ⟨rfl, v, ⟨h.at'.setCell 3 (.int .i64 c), h.own.fr (X := fun k => k = W) ((Fr.refl _ w).setCell W 3 _ (fun _ => rfl)) (fun k hk hx => h.off (by rw [hk, hx])), h.off, h.low, h.high, h.fits⟩, hF, NewOr.refl _ _⟩
/-- A failure of whatever writer: the first error stays. -/
theorem fail_any (w : World) (W : Nat) (lim : Int) (v : Value) (zs : List Int) (err c : Int) (h : WSt w W lim v zs err) : Calls Try.prog 154 #[.pointer (some ⟨W, 0, none⟩), .int .i64 c] w (Wrote w W lim v zs (if err ≠ 0 then err else c)) := by
  by_cases he : err = 0
  · subst he
    exact fail_ok w W lim v zs c h
  · rw [if_pos he]
    exact (fail_err w W lim v zs err c h he).mono fun e w' ⟨h1, h2⟩ => by subst h2; exact ⟨h1, v, h, Step.refl _ _ _⟩
end WirA
end Go.Proofs.Ythcemghamdmjmaa

namespace Go.Proofs.Ythcemghamdmjmaa
namespace WirB
open Go.RowKit
open BlkM WirM WirS WirA

theorem put_none (w : World) (p : Option Addr) (a b : Option Addr) (n c m d : Nat) (h : NoW w p) : Calls Try.prog 155 #[.pointer p, .slice a n c, .slice b m d] w fun e w' => e = .returned (.int .i64 1) ∧ w = w' := by
  have H := hide (fun W (k : NoW W p) => state_none W p k)
  have HN := hide h
  clear h
  go_enter Try.func155, Try.ntmps155
  go_wp2_with ((go_at_call 112; refine (H.out _ HN.out).mono ?_; rintro e w1 ⟨rfl, rfl⟩))
  go_ret
  exact ⟨rfl, rfl⟩
theorem put_err (w : World) (W : Nat) (lim : Int) (v : Value) (zs : List Int) (err : Int) (a b : Option Addr) (n c m d : Nat) (h : WSt w W lim v zs err) (he : err ≠ 0) : Calls Try.prog 155 #[.pointer (some ⟨W, 0, none⟩), .slice a n c, .slice b m d] w fun e w' => e = .returned (.int .i64 err) ∧ w = w' := by
  have H := hide (state_any w W lim v zs err h)
  have hb : (err != 0) = true := by simpa using he
  have hb2 : (err == 0) = false := by simpa using he
  clear h he
  go_enter Try.func155, Try.ntmps155
  go_wp2_with ((go_at_call 112; refine (H.out).mono ?_; rintro e w1 ⟨rfl, rfl⟩))
  go_ret
  exact ⟨rfl, rfl⟩
theorem len_of {w : World} {T : TypeId} {v : Value} {zs : List Int} (h : Own w T v zs) : ∃ a cap, v = .slice a zs.length cap := by
  obtain ⟨a, cap, rfl, _⟩ := h.bin
  exact ⟨a, cap, rfl⟩
theorem Fr.drewN {X : Nat → Prop} {w w' : World} (h : Fr X w w') (n : Nat) : Fr X w (w'.drewN n) := ⟨h.os, h.tape, h.output, h.size, h.block⟩
theorem Wrote.pre {w w1 : World} {W : Nat} {lim : Int} {v : Value} {zs' : List Int} {err' : Int} {e : Ending} {w' : World} (hb : Below w.heap.size w w1) (h : Wrote w1 W lim v zs' err' e w') : Wrote w W lim v zs' err' e w' := by
  obtain ⟨h1, v', h2, h3⟩ := h
  exact ⟨h1, v', h2, (Step.of_below hb).trans h3⟩
theorem WSt_drewN {w : World} {W : Nat} {lim : Int} {v : Value} {zs : List Int} {err : Int} (h : WSt w W lim v zs err) (n : Nat) : WSt (w.drewN n) W lim v zs err :=
  h.fr (X := fun _ => False) (Fr.drewN (Fr.refl _ w) n) (fun _ _ h => h)
set_option maxHeartbeats 800000 in
theorem put_long (w : World) (W : Nat) (lim : Int) (v : Value) (zs : List Int) (a b : Option Addr) (n c m d : Nat) (h : WSt w W lim v zs 0) (hn : n ≤ 1099511627776) (hm : m ≤ 1099511627776) (hl : lim < (zs.length : Int) + ((n + m : Nat) : Int)) :
    Calls Try.prog 155 #[.pointer (some ⟨W, 0, none⟩), .slice a n c, .slice b m d] w (Wrote w W lim v zs 4) := by
  obtain ⟨va, vc, hv⟩ := len_of h.own
  have c1 : w.cell? ⟨W, 1, none⟩ = some (.int .i64 lim) := by rw [h.at'.cell]; rfl
  have c2 : w.cell? ⟨W, 2, none⟩ = some (.slice va zs.length vc) := by rw [h.at'.cell, hv]; rfl
  have hlo := h.low
  have hhi := h.high
  have hfit := h.fits
  have H := hide (state_any w W lim v zs 0 h)
  have HF := hide (fun q => (fail_ok (w.drewN q) W lim v zs 4 (WSt_drewN h q)))
  obtain ⟨k, hk⟩ : ∃ k, k = zs.length := ⟨_, rfl⟩
  rw [← hk] at c2 hfit hl
  have w1 : IntKind.i64.wrap (↑n + ↑m) = (n : Int) + (m : Int) := IntWalk.i64_in _ (by omega)
  have w2 : IntKind.i64.wrap (lim - ↑k) = lim - (k : Int) := IntWalk.i64_in _ (by omega)
  have w3 : decide (lim - (k : Int) < (n : Int) + (m : Int)) = true := decide_eq_true (by omega)
  clear hv hk h
  go_enter Try.func155, Try.ntmps155
  go_upto_region 4 with ((go_at_call 112; refine (H.out).mono ?_; rintro e w1 ⟨rfl, rfl⟩))
  go_quiet (fail)
  go_wp2_with ((go_at_call 154; refine (HF.out _).mono ?_; rintro e w1 ⟨rfl, hs⟩))
  go_ret
  exact Wrote.pre (below_drewN (Below.refl _ _) _) ⟨rfl, hs⟩
/-- Not in a block of the writer. -/
def Apart (W : Nat) (v x : Value) : Prop := Off (Xw W v) x
set_option maxHeartbeats 1600000 in
theorem put_ok (w : World) (W : Nat) (lim : Int) (v : Value) (zs : List Int) (a b : Option Addr) (n c m d : Nat) (hs bd : List Int) (h : WSt w W lim v zs 0)
    (hx : BIn w (.slice a n c) hs) (hy : BIn w (.slice b m d) bd) (ox : Apart W v (.slice a n c)) (oy : Apart W v (.slice b m d)) (hl : (zs.length : Int) + ((n + m : Nat) : Int) ≤ lim) :
    Calls Try.prog 155 #[.pointer (some ⟨W, 0, none⟩), .slice a n c, .slice b m d] w (Wrote w W lim v (zs ++ (hs ++ bd)) 0) := by
  obtain ⟨va, vc, hv⟩ := len_of h.own
  obtain ⟨_, _, e1, _⟩ := id hx
  obtain ⟨_, _, e2, _⟩ := id hy
  have hnl : n = hs.length := by cases e1; rfl
  have hml : m = bd.length := by cases e2; rfl
  have c1 : w.cell? ⟨W, 1, none⟩ = some (.int .i64 lim) := by rw [h.at'.cell]; rfl
  have c2 : w.cell? ⟨W, 2, none⟩ = some (.slice va zs.length vc) := by rw [h.at'.cell, hv]; rfl
  have hlo := h.low
  have hhi := h.high
  have hfit := h.fits
  have H := hide (state_any w W lim v zs 0 h)
  obtain ⟨k, hk⟩ : ∃ k, k = zs.length := ⟨_, rfl⟩
  have hl0 := hl
  rw [← hk] at c2 hfit hl
  have w1 : IntKind.i64.wrap (↑n + ↑m) = (n : Int) + (m : Int) := IntWalk.i64_in _ (by omega)
  have w2 : IntKind.i64.wrap (lim - ↑k) = lim - (k : Int) := IntWalk.i64_in _ (by omega)
  have w3 : decide (lim - (k : Int) < (n : Int) + (m : Int)) = false := decide_eq_false (by omega)
  obtain ⟨i0, hi, hz0, hz1, hz2⟩ := info_parts (show (Try.prog.info? 5).map (fun i => (i.zero, i.size, i.bytes)) = some (some (.int .u8 0), 1, 1) by kernel_rfl)
  -- what the two appends yield, in whatever world the test is left
  have HA : ∀ q, ∃ v1 u1 v2 u2, (Builtin.append_ #[32, 32] 32 #[v, .slice a n c]).run Try.prog (w.drewN q) = .ok v1 u1 ∧ (Builtin.append_ #[32, 32] 32 #[v1, .slice b m d]).run Try.prog u1 = .ok v2 u2 ∧
      Own u2 5 v2 (zs ++ (hs ++ bd)) ∧ Step w W v u2 v2 ∧ v2.ownBlock ≠ some W ∧ At u2 W 59 (wcells W lim v 0) := fun q => by
    have hd : Fr (Xw W v) w (w.drewN q) := Fr.drewN (Fr.refl _ w) q
    have hd0 : Fr (fun _ => False) w (w.drewN q) := Fr.drewN (Fr.refl _ w) q
    obtain ⟨v1, u1, r1, o1, f1, n1⟩ := app_any (P := Try.prog) (w.drewN q) 32 32 32 5 i0 _ Try.underlying32 hi hz0 hz1 hz2 rfl v (.slice a n c) zs hs (h.own.fr hd0 (fun _ _ h => h)) ((hx.fr hd0 (fun _ _ h => h)).src Try.underlying32) (by omega)
    have hW1 : v1.ownBlock ≠ some W := fun e => by
      rcases n1 W e with e | e
      · exact h.off e
      · have := h.lt
        exact absurd (show w.heap.size ≤ W from e) (by omega)
    have hoff1 : Off (fun k => v.ownBlock = some k) (.slice b m d) := fun k hk hx => oy k hk (.inr hx)
    have hy1 : BIn u1 (.slice b m d) bd := (hy.fr hd0 (fun _ _ h => h)).fr f1 hoff1
    obtain ⟨v2, u2, r2, o2, f2, n2⟩ := app_any (P := Try.prog) u1 32 32 32 5 i0 _ Try.underlying32 hi hz0 hz1 hz2 rfl v1 (.slice b m d) (zs ++ hs) bd o1 (hy1.src Try.underlying32) (by rw [List.length_append]; omega)
    have s1 : Step w W v u1 v1 := ⟨hd.trans (f1.mono fun i _ hi => .inr hi), n1⟩
    have s2 : Step u1 W v1 u2 v2 := ⟨f2.mono fun i _ hi => .inr hi, n2⟩
    have hW2 : v2.ownBlock ≠ some W := fun e => by
      rcases n2 W e with e | e
      · exact hW1 e
      · have := h.lt
        have := s1.1.size
        omega
    refine ⟨v1, u1, v2, u2, r1, r2, by rw [← List.append_assoc]; exact o2, s1.trans s2, hW2, ?_⟩
    exact At.fr (At.fr (At.fr h.at' hd0 (fun h => h)) f1 (fun e => h.off e)) f2 (fun e => hW1 e)
  have HA := hide HA
  have HH := hide h
  have HV := hide hv
  have HK := hide hk
  have HL := hide (show ((zs ++ (hs ++ bd)).length : Int) ≤ lim by simp only [List.length_append]; omega)
  clear hv hk h hx hy ox oy hnl hml e1 e2 hi hz0 hz1 hz2
  go_enter Try.func155, Try.ntmps155
  go_upto_region 4 with ((go_at_call 112; refine (H.out).mono ?_; rintro e w1 ⟨rfl, rfl⟩))
  go_quiet (fail)
  go_upto_region 6 with fail
  rename_i nq _ _
  obtain ⟨v1, u1, v2, u2, r1, r2, own2, st2, off2, at2⟩ := HA.out nq
  have c2' : (w.drewN nq).cell? ⟨W, 2, none⟩ = some v := by rw [HV.out, ← HK.out]; simpa using c2
  have hf := at2.frozen 2
  have hc : u2.cell? ⟨W, 2, none⟩ = some v := by rw [at2.cell]; rfl
  refine wp_region_lit ?_
  refine sV (.pointer (some ⟨W, 0, none⟩)) (w.drewN nq) (by kernel_rfl) (by kernel_rfl) ?_
  simp only [Act.put, List.setIfInBounds_toArray, List.set_cons_succ, List.set_cons_zero]
  refine sV (.pointer (some ⟨W, 0, none⟩)) (w.drewN nq) (by kernel_rfl) (by kernel_rfl) ?_
  simp only [Act.put, List.setIfInBounds_toArray, List.set_cons_succ, List.set_cons_zero]
  refine sV (.pointer (some ⟨W, 0, none⟩)) (w.drewN nq) (by kernel_rfl) (by kernel_rfl) ?_
  simp only [Act.put, List.setIfInBounds_toArray, List.set_cons_succ, List.set_cons_zero]
  refine sV (.pointer (some ⟨W, 2, none⟩)) (w.drewN nq) (by kernel_rfl) (by kernel_rfl) ?_
  simp only [Act.put, List.setIfInBounds_toArray, List.set_cons_succ, List.set_cons_zero]
  refine sP (by kernel_rfl) _ _ (by rfl) ⟨W, 2, none⟩ (by kernel_rfl) (v) c2' (by kernel_rfl) ?_
  simp only [Act.put, List.setIfInBounds_toArray, List.set_cons_succ, List.set_cons_zero]
  refine sV (.slice a n c) (w.drewN nq) (by kernel_rfl) (by kernel_rfl) ?_
  simp only [Act.put, List.setIfInBounds_toArray, List.set_cons_succ, List.set_cons_zero]
  refine sA (by kernel_rfl) 32 32 _ _ (by rfl) (v) (.slice a n c) (by kernel_rfl) (by kernel_rfl) (v1) (u1) r1 ?_
  simp only [Act.put, List.setIfInBounds_toArray, List.set_cons_succ, List.set_cons_zero]
  refine sV (.slice b m d) (u1) (by kernel_rfl) (by kernel_rfl) ?_
  simp only [Act.put, List.setIfInBounds_toArray, List.set_cons_succ, List.set_cons_zero]
  refine sA (by kernel_rfl) 32 32 _ _ (by rfl) (v1) (.slice b m d) (by kernel_rfl) (by kernel_rfl) (v2) (u2) r2 ?_
  simp only [Act.put, List.setIfInBounds_toArray, List.set_cons_succ, List.set_cons_zero]
  clear c2' r1 r2
  obtain ⟨a2, c2, e2⟩ := len_of own2
  obtain ⟨n2, hn2⟩ : ∃ n2, n2 = (zs ++ (hs ++ bd)).length := ⟨_, rfl⟩
  rw [← hn2] at e2
  subst e2
  clear hn2
  go_wp2_with fail
  go_ret
  have h := HH.out
  refine ⟨rfl, _, ⟨at2.setCell 2 _, own2.fr (X := fun k => k = W) ((Fr.refl _ u2).setCell W 2 _ (fun _ => rfl)) (fun k hk hx => off2 (by rw [hk, hx])), off2, h.low, h.high, ?_⟩, st2.1.setCell W 2 _ (fun _ => .inl rfl), st2.2⟩
  exact HL.out
end WirB
end Go.Proofs.Ythcemghamdmjmaa

namespace Go.Proofs.Ythcemghamdmjmaa
namespace WirC
open Go.RowKit
open BlkM WirM WirS WirA WirB

/-- The form behind i rounds. -/
def cp (n : Int) (k : Nat) : Nat → List Int
  | 0 => (k : Int) :: List.replicate 8 0
  | i + 1 => (cp n k i).set (k - i) (n / 2 ^ (8 * i) % 256)
theorem cp_len (n : Int) (k : Nat) : ∀ i, (cp n k i).length = 9
  | 0 => rfl
  | i + 1 => by rw [cp, List.length_set, cp_len n k i]
def z9 : List Int := List.replicate 9 0
def MidC (w : World) (n : Int) (k : Nat) (i : Value) (U : World) : Prop :=
  ∃ j : Nat, j ≤ k ∧ i = .int .i64 (j : Int) ∧ At U w.heap.size 226 (b8 z9) ∧ At U (w.heap.size + 1) 226 (b8 (cp n k j)) ∧ Below w.heap.size w U
theorem wrap8 (n : Int) : IntKind.u8.wrap n = n % 256 := by simp [IntKind.wrap, IntKind.bits, IntKind.signed]
set_option maxHeartbeats 4000000 in
theorem counted_any (w : World) (n : Int) (k : Nat) (hk : k ≤ 8) (h0 : 0 ≤ n) (h1 : n < 18446744073709551616) :
    Calls Try.prog 190 #[.int .u64 n, .int .i64 (k : Int)] w fun e w' => e = .returned (.agg (b8 (cp n k k)).toArray) ∧ Below w.heap.size w w' := by
  obtain ⟨W0, eW0⟩ : ∃ X, X = (w.alloc (.cells (b8 z9).toArray 226)).alloc (.cells (b8 z9).toArray 226) := ⟨_, rfl⟩
  have hk8 : IntKind.u8.wrap (k : Int) = (k : Int) := by rw [wrap8]; omega
  have hst : MidC w n k (.int .i64 0) ((w.alloc (.cells (b8 z9).toArray 226)).alloc (.cells (b8 (cp n k 0)).toArray 226)) := by
    refine ⟨0, by omega, rfl, At.alloc (At.new w _ _) _, ?_, Below.alloc (Below.alloc (Below.refl _ _) (Nat.le_refl _) _) (by simp) _⟩
    have := At.new (w.alloc (.cells (b8 z9).toArray 226)) 226 (b8 (cp n k 0))
    rw [World.size_alloc] at this
    exact this
  have HST := hide hst
  clear hst
  go_enter Try.func190, Try.ntmps190
  go_wp2_with fail
  go_loopw [11] (fun i wr => MidC w n k i wr) (fun i _ => k - (intOf i).toNat)
  case atStart => exact HST.out
  case round =>
    obtain ⟨j, hj, rfl, hz, hc, hB⟩ := hrel
    by_cases hlt : j < k
    · obtain ⟨m, hm⟩ : ∃ m, k = m + j := ⟨k - j, by omega⟩
      have HZ := hide hz
      have HC := hide hc
      have HB := hide hB
      have ck := hc.cell m
      have fk := hc.frozen m
      rw [b8_get _ m (by rw [cp_len]; omega)] at ck
      have hm8 : (m : Int) < 9 := by omega
      have hm0 : 0 < m := by omega
      have hkl : k - j = m := by omega
      have HK := hide hkl
      clear hz hc hB hkl
      obtain rfl | rfl | rfl | rfl | rfl | rfl | rfl | rfl : j = 0 ∨ j = 1 ∨ j = 2 ∨ j = 3 ∨ j = 4 ∨ j = 5 ∨ j = 6 ∨ j = 7 := by omega
      · obtain rfl : k = m := by omega
        clear hm
        go_wp2_with fail
        go_roundw
        case rel =>
          refine ⟨1, by omega, by go_num, HZ.out.setCell_other (by omega) _ _, ?_, Below.setCell HB.out (by simp) _⟩
          have := HC.out.setCell k (.int .u8 (n % 256))
          rw [b8_set] at this
          simpa [cp] using this
        case measure => simp [intOf]; omega
      · have e1 : (k : Int) - 1 = (m : Int) := by omega
        have HM := hide hm
        clear hm
        go_wp2_with fail
        go_roundw
        case rel =>
          refine ⟨2, by have := HM.out; omega, by go_num, HZ.out.setCell_other (by omega) _ _, ?_, Below.setCell HB.out (by simp) _⟩
          have := HC.out.setCell m (.int .u8 (n / 2 ^ (8 * 1) % 256))
          rw [b8_set] at this
          rw [cp, HK.out]
          first | exact this | simpa using this
        case measure => have := HM.out; simp [intOf]; omega
      · have e1 : (k : Int) - 2 = (m : Int) := by omega
        have HM := hide hm
        clear hm
        go_wp2_with fail
        go_roundw
        case rel =>
          refine ⟨3, by have := HM.out; omega, by go_num, HZ.out.setCell_other (by omega) _ _, ?_, Below.setCell HB.out (by simp) _⟩
          have := HC.out.setCell m (.int .u8 (n / 2 ^ (8 * 2) % 256))
          rw [b8_set] at this
          rw [cp, HK.out]
          first | exact this | simpa using this
        case measure => have := HM.out; simp [intOf]; omega
      · have e1 : (k : Int) - 3 = (m : Int) := by omega
        have HM := hide hm
        clear hm
        go_wp2_with fail
        go_roundw
        case rel =>
          refine ⟨4, by have := HM.out; omega, by go_num, HZ.out.setCell_other (by omega) _ _, ?_, Below.setCell HB.out (by simp) _⟩
          have := HC.out.setCell m (.int .u8 (n / 2 ^ (8 * 3) % 256))
          rw [b8_set] at this
          rw [cp, HK.out]
          first | exact this | simpa using this
        case measure => have := HM.out; simp [intOf]; omega
      · have e1 : (k : Int) - 4 = (m : Int) := by omega
        have HM := hide hm
        clear hm
        go_wp2_with fail
        go_roundw
        case rel =>
          refine ⟨5, by have := HM.out; omega, by go_num, HZ.out.setCell_other (by omega) _ _, ?_, Below.setCell HB.out (by simp) _⟩
          have := HC.out.setCell m (.int .u8 (n / 2 ^ (8 * 4) % 256))
          rw [b8_set] at this
          rw [cp, HK.out]
          first | exact this | simpa using this
        case measure => have := HM.out; simp [intOf]; omega
      · have e1 : (k : Int) - 5 = (m : Int) := by omega
        have HM := hide hm
        clear hm
        go_wp2_with fail
        go_roundw
        case rel =>
          refine ⟨6, by have := HM.out; omega, by go_num, HZ.out.setCell_other (by omega) _ _, ?_, Below.setCell HB.out (by simp) _⟩
          have := HC.out.setCell m (.int .u8 (n / 2 ^ (8 * 5) % 256))
          rw [b8_set] at this
          rw [cp, HK.out]
          first | exact this | simpa using this
        case measure => have := HM.out; simp [intOf]; omega
      · have e1 : (k : Int) - 6 = (m : Int) := by omega
        have HM := hide hm
        clear hm
        go_wp2_with fail
        go_roundw
        case rel =>
          refine ⟨7, by have := HM.out; omega, by go_num, HZ.out.setCell_other (by omega) _ _, ?_, Below.setCell HB.out (by simp) _⟩
          have := HC.out.setCell m (.int .u8 (n / 2 ^ (8 * 6) % 256))
          rw [b8_set] at this
          rw [cp, HK.out]
          first | exact this | simpa using this
        case measure => have := HM.out; simp [intOf]; omega
      · have e1 : (k : Int) - 7 = (m : Int) := by omega
        have HM := hide hm
        clear hm
        go_wp2_with fail
        go_roundw
        case rel =>
          refine ⟨8, by have := HM.out; omega, by go_num, HZ.out.setCell_other (by omega) _ _, ?_, Below.setCell HB.out (by simp) _⟩
          have h7 : n / 72057594037927936 % 256 = n / 72057594037927936 := by omega
          have := HC.out.setCell m (.int .u8 (n / 2 ^ (8 * 7) % 256))
          rw [b8_set] at this
          rw [cp, HK.out]
          simpa [h7] using this
        case measure => have := HM.out; simp [intOf]; omega
    · obtain rfl : j = k := by omega
      have HB := hide hB
      have HZ := hide hz
      have HC := hide hc
      clear hz hc hB
      go_upto_region 7 with fail
      refine wp_region_lit ?_
      refine sL (by kernel_rfl) _ _ (by rfl) _ (by kernel_rfl) HC.out _ 9 Try.underlying226 rfl (by kernel_rfl) (by rw [b8_len, cp_len]) ?_
      simp only [Act.put, List.setIfInBounds_toArray, List.set_cons_succ, List.set_cons_zero]
      refine stepStore (by rfl) _ _ _ (by rfl) _ (b8 (cp n j j)) (by kernel_rfl) (by kernel_rfl) HZ.out 9 (by kernel_rfl) (by rw [b8_len]; rfl) (by rw [b8_len, cp_len]) (all_oneCell_toArray (one_b8 _)) ?_
      obtain ⟨WL, eWL⟩ : ∃ X, X = wr.setRow w.heap.size (b8 (cp n j j)).toArray := ⟨_, rfl⟩
      have hAL : At WL w.heap.size 226 (b8 (cp n j j)) := by rw [eWL]; exact HZ.out.put _
      have hBL : Below w.heap.size w WL := by rw [eWL]; exact Below.setRowOwn HB.out (Nat.le_refl _) _
      rw [← eWL]
      have HAL := hide hAL
      have HBL := hide hBL
      clear eWL hAL hBL
      go_wp2_with fail
      exact bodyPost_ret (retRow HAL.out Try.results190 _ (by rfl) (.array 9 5) 9 Try.underlying226 rfl (by kernel_rfl) (by rw [b8_len, cp_len])) rfl ⟨rfl, HBL.out⟩
end WirC
end Go.Proofs.Ythcemghamdmjmaa

namespace Go.Proofs.Ythcemghamdmjmaa
namespace WirD
open Go.RowKit
open BlkM WirM WirS WirA WirB WirC

/-! ### math/bits.Len64 (the shelf's contract) -/
def lays_ren : Go.Shelf.Ren := ⟨fun | 129 => 214 | n => n, fun | 53 => 37 | 3 => 3 | 4 => 4 | 46 => 233 | 5 => 5 | 9 => 9 | n => n, fun | n => n⟩
theorem lays129 : Go.Proofs.Lays.n129 Try.prog lays_ren := {
  mixed := by kernel_rfl
  f129 := Try.func214.trans (congrArg some (by kernel_rfl))
  t3 := Try.underlying3
  a3 := Try.isAgg3
  z3 := Try.sizeOf3
  v3 := Try.zeroValue3
  t4 := Try.underlying4
  a4 := Try.isAgg4
  z4 := Try.sizeOf4
  v4 := Try.zeroValue4
  t5 := Try.underlying5
  a5 := Try.isAgg5
  z5 := Try.sizeOf5
  v5 := Try.zeroValue5
  t9 := Try.underlying9
  a9 := Try.isAgg9
  z9 := Try.sizeOf9
  v9 := Try.zeroValue9
  t46 := Try.underlying233
  a46 := Try.isAgg233
  z46 := Try.sizeOf233
  v46 := Try.zeroValue233
  t53 := Try.underlying37
  a53 := Try.isAgg37
  z53 := Try.sizeOf37
  v53 := Try.zeroValue37 }
theorem len64 (x : Int) (w : World) (h0 : 0 ≤ x) (h1 : x ≤ 18446744073709551615) :
    Calls Try.prog 214 #[.int .u64 x] w fun e w' => e = .returned (.int .i64 (Lib.bitLen x.toNat)) ∧ w = w' := (Go.Proofs.Any.bits_Len64 lays129 x w h0 h1).mono fun _ _ ⟨h, k⟩ => ⟨h, k.symm⟩

/-- How many bytes a number's digits are. -/
def nb (n : Int) : Nat := (Lib.bitLen n.toNat + 7) / 8
theorem nb_le (n : Int) (h1 : n < 18446744073709551616) : nb n ≤ 8 := by
  have := Lib.bitLen_le n.toNat 64 (Nat.le_refl _) (by omega)
  unfold nb
  omega
/-- The form of a number. -/
def numB (n : Int) : List Int := (cp n (nb n) (nb n)).take (nb n + 1)
theorem numB_len (n : Int) (h1 : n < 18446744073709551616) : (numB n).length = nb n + 1 := by
  have := nb_le n h1
  simp [numB, cp_len]
  omega
theorem al9 (a : Operand → Value) (o : Oper) (ho : o.op = Op.alloc 226) (W : World) : (execOp a o).run Try.prog W = .ok (.value (.pointer (some ⟨W.heap.size, 0, none⟩))) (W.alloc (.cells (b8 z9).toArray 226)) := by
  unfold execOp
  rw [ho]
  kernel_rfl
theorem sl9 (D m : Nat) (hm : m ≤ 9) (Y : World) : (Instr.sliceAt 226 (.pointer (some ⟨D, 0, none⟩)) none (some (.int .i64 (m : Int))) none).run Try.prog Y = .ok (.slice (some ⟨D, 0, none⟩) m 9) Y := by
  have ha : Try.prog.arrayLen 226 = 9 := by kernel_rfl
  rw [run_sliceAt_array_h Y 226 ⟨D, 0, none⟩ (by kernel_rfl) .i64 (m : Int) (by omega) (by rw [ha]; omega), ha]
  have hs : (sizeOf (Try.prog.elem 226)).run Try.prog Y = .ok 1 Y := by kernel_rfl
  rw [hs]
  simp [slicedAt, Addr.add_lit]
theorem cvU {n : Int} (a : Operand → Value) (o : Oper) (x : Operand) (ho : o.op = Op.convert 3 37 x) (hx : a x = .int .i64 n) (h0 : 0 ≤ n) (h1 : n < 9223372036854775808) (W : World) : (execOp a o).run Try.prog W = .ok (.value (.int .u64 n)) W := by
  have hw : IntKind.u64.wrap n = n := by simp [IntKind.wrap, IntKind.bits, IntKind.signed]; omega
  unfold execOp
  rw [ho]
  simp only [hx]
  simp [convert, Conv.intToInt, run_underlying Try.underlying3, run_underlying Try.underlying37, hw]
set_option maxHeartbeats 1000000 in
theorem number_any (w : World) (n : Int) (h0 : 0 ≤ n) (h1 : n < 9223372036854775808) :
    Calls Try.prog 156 #[.int .i64 n] w fun e w' => ∃ F, e = .returned (.slice (some ⟨F, 0, none⟩) (nb n + 1) 9) ∧ w.heap.size ≤ F ∧ BIn w' (.slice (some ⟨F, 0, none⟩) (nb n + 1) 9) (numB n) ∧ Below w.heap.size w w' := by
  have hk := nb_le n (by omega)
  obtain ⟨k, hkk⟩ : ∃ k, k = nb n := ⟨_, rfl⟩
  obtain ⟨L, hL⟩ : ∃ L, L = Lib.bitLen n.toNat := ⟨_, rfl⟩
  have hL64 : L ≤ 64 := by rw [hL]; exact Lib.bitLen_le n.toNat 64 (Nat.le_refl _) (by omega)
  have hq : ((L : Int) + 7) / 8 = (k : Int) := by rw [hkk]; unfold nb; rw [← hL]; omega
  have C1 := hide (len64 n w h0 (by omega))
  rw [← hL] at C1
  have C2 := hide (counted_any w n k (by rw [hkk]; exact hk) h0 (by omega))
  rw [← hkk] at hk
  have hs9 := sl9
  have HK := hide hkk
  clear hkk hL
  go_enter Try.func156, Try.ntmps156
  go_upto_region 2 with ((go_at_call 214; refine (C1.out).mono ?_; rintro e w1 ⟨rfl, rfl⟩))
  simp only [hq]
  refine wp_region_lit ?_
  refine sV (.int .i64 n) (w) (by kernel_rfl) (by kernel_rfl) ?_
  simp only [Act.put, List.setIfInBounds_toArray, List.set_cons_succ, List.set_cons_zero]
  refine sV (.int .u64 n) w (by kernel_rfl) (cvU _ _ _ (by rfl) (by kernel_rfl) h0 h1 w) ?_
  simp only [Act.put, List.setIfInBounds_toArray, List.set_cons_succ, List.set_cons_zero]
  refine sV (.int .i64 (k : Int)) (w) (by kernel_rfl) (by kernel_rfl) ?_
  simp only [Act.put, List.setIfInBounds_toArray, List.set_cons_succ, List.set_cons_zero]
  refine sC (by kernel_rfl) (by kernel_rfl) C2.out ?_
  rintro w2 hb2
  simp only [Act.put, List.setIfInBounds_toArray, List.set_cons_succ, List.set_cons_zero]
  obtain ⟨F, hF⟩ : ∃ F, F = w2.heap.size := ⟨_, rfl⟩
  refine sV (.pointer (some ⟨w2.heap.size, 0, none⟩)) (w2.alloc (.cells (b8 z9).toArray 226)) (by kernel_rfl) (al9 _ _ rfl w2) ?_
  simp only [Act.put, List.setIfInBounds_toArray, List.set_cons_succ, List.set_cons_zero]
  refine stepStore (by rfl) _ _ _ (by rfl) _ (b8 (cp n k k)) (by kernel_rfl) (by kernel_rfl) (At.new w2 226 (b8 z9)) 9 (by kernel_rfl) (by rw [b8_len]; rfl) (by rw [b8_len, cp_len]) (all_oneCell_toArray (one_b8 _)) ?_
  obtain ⟨W3, eW⟩ : ∃ X, X = (w2.alloc (.cells (b8 z9).toArray 226)).setRow w2.heap.size (b8 (cp n k k)).toArray := ⟨_, rfl⟩
  have hA : At W3 F 226 (b8 (cp n k k)) := by rw [eW, hF]; exact (At.new w2 _ (b8 z9)).put _
  have hB : Below w2.heap.size w2 W3 := by rw [eW]; exact Below.setRowOwn (Below.alloc (Below.refl _ _) (Nat.le_refl _) _) (Nat.le_refl _) _
  rw [← eW, ← hF]
  have HA := hide hA
  have HB := hide (hb2.trans (hB.mono hb2.size))
  have HF := hide (show w.heap.size ≤ F by rw [hF]; exact hb2.size)
  have e1 : (1 : Int) + (k : Int) = (k : Int) + 1 := by omega
  have hs : ∀ Y, (Instr.sliceAt 226 (.pointer (some ⟨F, 0, none⟩)) none (some (.int .i64 ((k : Int) + 1))) none).run Try.prog Y = .ok (.slice (some ⟨F, 0, none⟩) (k + 1) 9) Y := fun Y => by simpa using hs9 F (k + 1) (by omega) Y
  clear eW hA hB hF hb2 hs9 hq C1 C2
  go_wp2_with fail
  go_ret
  rw [HK.out] at HA ⊢
  refine ⟨F, rfl, HF.out, ?_, HB.out⟩
  have hk8 := nb_le n (by omega)
  refine ⟨_, 9, by rw [numB_len n (by omega)], by rw [numB_len n (by omega)]; omega, fun _ => ⟨F, 0, rfl, HA.out.lt, fun i hi => ?_⟩⟩
  rw [HA.out.cell, Nat.zero_add]
  rw [numB_len n (by omega)] at hi
  rw [b8_get _ i (by rw [cp_len]; omega)]
  unfold numB
  simp [List.getD, hi]
end WirD
end Go.Proofs.Ythcemghamdmjmaa

namespace Go.Proofs.Ythcemghamdmjmaa
namespace WirE
open Go.RowKit
open BlkM WirM WirS WirA WirB WirC WirD

/-- The bytes of a text. -/
def tb (s : ByteArray) : List Int := s.data.toList.map fun b => (b.toNat : Int)
theorem tb_len (s : ByteArray) : (tb s).length = s.size := by simp [tb]
def NewB (w : World) (x : Value) : Prop := ∀ k, x.ownBlock = some k → w.heap.size ≤ k
theorem put_any (w : World) (W : Nat) (lim : Int) (v : Value) (zs : List Int) (err : Int) (a b : Option Addr) (n c m d : Nat) (hs bd : List Int) (h : WSt w W lim v zs err)
    (hx : BIn w (.slice a n c) hs) (hy : BIn w (.slice b m d) bd) (ox : Apart W v (.slice a n c)) (oy : Apart W v (.slice b m d)) (hn : n ≤ 1099511627776) (hm : m ≤ 1099511627776) :
    Calls Try.prog 155 #[.pointer (some ⟨W, 0, none⟩), .slice a n c, .slice b m d] w (Wrote w W lim v (putZ lim err zs (hs ++ bd)) (putE lim err zs (hs ++ bd).length)) := by
  obtain ⟨_, _, e1, _⟩ := id hx
  obtain ⟨_, _, e2, _⟩ := id hy
  have hnl : n = hs.length := by cases e1; rfl
  have hml : m = bd.length := by cases e2; rfl
  have hl : (hs ++ bd).length = n + m := by rw [List.length_append, hnl, hml]
  unfold putZ
  rw [hl]
  unfold putE
  by_cases he : err = 0
  · subst he
    simp only [ne_eq, not_true_eq_false, if_false]
    by_cases hlim : lim < (zs.length : Int) + ((n + m : Nat) : Int)
    · rw [if_pos hlim]
      rw [if_neg (by decide)]
      exact put_long w W lim v zs a b n c m d h hn hm hlim
    · rw [if_neg hlim]
      rw [if_pos rfl]
      exact put_ok w W lim v zs a b n c m d hs bd h hx hy ox oy (by omega)
  · rw [if_pos he, if_neg he]
    exact (put_err w W lim v zs err a b n c m d h he).mono fun e w' ⟨h1, h2⟩ => by subst h2; exact ⟨h1, v, h, Step.refl _ _ _⟩
/-- put, behind what only makes memory. -/
theorem put_after (w W1 : World) (W : Nat) (lim : Int) (v : Value) (zs : List Int) (err : Int) (a b : Option Addr) (n c m d : Nat) (hs bd : List Int) (hb : Below w.heap.size w W1) (h : WSt w W lim v zs err)
    (hx : BIn W1 (.slice a n c) hs) (hy : BIn W1 (.slice b m d) bd) (ox : NewB w (.slice a n c)) (oy : NewB w (.slice b m d) ∨ Apart W v (.slice b m d)) (hn : n ≤ 1099511627776) (hm : m ≤ 1099511627776) :
    Calls Try.prog 155 #[.pointer (some ⟨W, 0, none⟩), .slice a n c, .slice b m d] W1 (Wrote w W lim v (putZ lim err zs (hs ++ bd)) (putE lim err zs (hs ++ bd).length)) := by
  have hlt := h.lt
  have hol := h.own.lt
  have new : ∀ x, NewB w x → Apart W v x := fun x hx k hk hX => by
    have := hx k hk
    rcases hX with rfl | hX
    · omega
    · have := hol k hX
      omega
  refine (put_any W1 W lim v zs err a b n c m d hs bd (h.below hb) hx hy (new _ ox) (oy.elim (new _) id) hn hm).mono fun e w' h => Wrote.pre hb h
theorem BIn_nil (w : World) : BIn w (.slice none 0 0) [] := BIn.nil w
theorem newB_nil (w : World) (n c : Nat) : NewB w (.slice none n c) := fun k hk => by simp [Value.ownBlock] at hk
theorem newB_at (w : World) (F o n c : Nat) (h : w.heap.size ≤ F) : NewB w (.slice (some ⟨F, o, none⟩) n c) := fun k hk => by
  simp [Value.ownBlock] at hk
  omega

/-! ### Num -/
theorem num_none (w : World) (p : Option Addr) (n : Int) (h0 : -9223372036854775808 ≤ n) (h1 : n < 9223372036854775808) (h : NoW w p) (hp : ∀ S, p = some ⟨S, 0, none⟩ → S < w.heap.size) : Calls Try.prog 45 #[.pointer p, .int .i64 n] w fun e w' => e = .returned (.int .i64 1) ∧ Below w.heap.size w w' := by
  by_cases hn : n < 0
  · have H := hide (fail_none w p 3 h)
    clear h
    go_enter Try.func45, Try.ntmps45
    go_wp2_with ((go_at_call 154; refine (H.out).mono ?_; rintro e w1 ⟨rfl, rfl⟩))
    go_ret
    exact ⟨rfl, Below.refl _ _⟩
  · have H := hide (fun W1 (hb : Below w.heap.size w W1) F c => put_none W1 p F none (nb n + 1) c 0 0 (by
      rcases h with rfl | ⟨S, rfl, hc⟩
      · exact .inl rfl
      · exact .inr ⟨S, rfl, (hb.cell (hp S rfl)).trans hc⟩))
    have C := hide (number_any w n (by omega) h1)
    clear h hp
    go_enter Try.func45, Try.ntmps45
    go_wp2_with (first | ((go_at_call 156; refine (C.out).mono ?_; rintro e w1 ⟨F, rfl, hF, hx, hb⟩; have HX := hide hx; clear hx)) | ((go_at_call 155; refine (H.out _ hb _ _).mono ?_; rintro e w2 ⟨rfl, rfl⟩)))
    go_ret
    exact ⟨rfl, hb⟩
theorem num_neg (w : World) (W : Nat) (lim : Int) (v : Value) (zs : List Int) (err n : Int) (hn : n < 0) (h : WSt w W lim v zs err) :
    Calls Try.prog 45 #[.pointer (some ⟨W, 0, none⟩), .int .i64 n] w (Wrote w W lim v zs (if err ≠ 0 then err else 3)) := by
  have H := hide (fail_any w W lim v zs err 3 h)
  generalize (if err ≠ 0 then err else (3 : Int)) = E at H ⊢
  clear h
  go_enter Try.func45, Try.ntmps45
  go_wp2_with ((go_at_call 154; refine (H.out).mono ?_; rintro e w1 ⟨rfl, hs⟩; have HS := hide hs; clear hs))
  go_ret
  exact ⟨rfl, HS.out⟩
theorem num_any (w : World) (W : Nat) (lim : Int) (v : Value) (zs : List Int) (err n : Int) (hn : 0 ≤ n) (h1 : n < 9223372036854775808) (h : WSt w W lim v zs err) :
    Calls Try.prog 45 #[.pointer (some ⟨W, 0, none⟩), .int .i64 n] w (Wrote w W lim v (putZ lim err zs (numB n)) (putE lim err zs (numB n).length)) := by
  have C := hide (number_any w n hn h1)
  have hk := nb_le n (by omega)
  have H := hide (fun W1 (hb : Below w.heap.size w W1) F (hF : w.heap.size ≤ F) (hx : BIn W1 (.slice (some ⟨F, 0, none⟩) (nb n + 1) 9) (numB n)) => put_after w W1 W lim v zs err (some ⟨F, 0, none⟩) none (nb n + 1) 9 0 0 (numB n) [] hb h hx (BIn.nil W1) (newB_at w F 0 _ _ hF) (.inl (newB_nil w 0 0)) (by omega) (by omega))
  rw [List.append_nil] at H
  have hn0 : ¬ n < 0 := by omega
  generalize putE lim err zs (numB n).length = E at H ⊢
  generalize putZ lim err zs (numB n) = Z at H ⊢
  clear h hk
  go_enter Try.func45, Try.ntmps45
  go_wp2_with (first | ((go_at_call 156; refine (C.out).mono ?_; rintro e w1 ⟨F, rfl, hF, hx, hb⟩; have HX := hide hx; clear hx)) | ((go_at_call 155; refine (H.out _ hb _ hF HX.out).mono ?_; rintro e w2 ⟨rfl, hs⟩; have HS := hide hs; clear hs)))
  go_ret
  exact ⟨rfl, HS.out⟩
/-! ### Bytes -/
theorem bytes_any (w : World) (W : Nat) (lim : Int) (v : Value) (zs : List Int) (err : Int) (a : Option Addr) (m c : Nat) (bd : List Int) (hb : BIn w (.slice a m c) bd) (ho : Apart W v (.slice a m c)) (hm : m ≤ 1099511627776) (h : WSt w W lim v zs err) :
    Calls Try.prog 99 #[.pointer (some ⟨W, 0, none⟩), .slice a m c] w (Wrote w W lim v (putZ lim err zs (numB m ++ bd)) (putE lim err zs (numB m ++ bd).length)) := by
  have C := hide (number_any w m (by omega) (by omega))
  have hk := nb_le m (by omega)
  have H := hide (fun W1 (hb1 : Below w.heap.size w W1) F (hF : w.heap.size ≤ F) (hx : BIn W1 (.slice (some ⟨F, 0, none⟩) (nb m + 1) 9) (numB m)) => put_after w W1 W lim v zs err (some ⟨F, 0, none⟩) a (nb m + 1) 9 m c (numB m) bd hb1 h hx (hb.below hb1) (newB_at w F 0 _ _ hF) (.inr ho) (by omega) hm)
  generalize putE lim err zs (numB m ++ bd).length = E at H ⊢
  generalize putZ lim err zs (numB m ++ bd) = Z at H ⊢
  clear h hk hb ho
  go_enter Try.func99, Try.ntmps99
  go_wp2_with (first | ((go_at_call 156; refine (C.out).mono ?_; rintro e w1 ⟨F, rfl, hF, hx, hb⟩; have HX := hide hx; clear hx)) | ((go_at_call 155; refine (H.out _ hb _ hF HX.out).mono ?_; rintro e w2 ⟨rfl, hs⟩; have HS := hide hs; clear hs)))
  go_ret
  exact ⟨rfl, HS.out⟩
/-! ### Text -/
theorem below_bw (w : World) (s : ByteArray) : Below w.heap.size w (Lib.bytesWorld w 5 s) := by
  refine ⟨rfl, rfl, rfl, ?_, fun k hk => Lib.bytesWorld_at_old w _ s k hk⟩
  have := (Array.getElem?_eq_some_iff.1 (Lib.bytesWorld_at_new w 5 s)).1
  omega
theorem bin_bw (w : World) (s : ByteArray) (c : Nat) (hc : s.size ≤ c) : BIn (Lib.bytesWorld w 5 s) (.slice (some ⟨w.heap.size, 0, none⟩) s.size c) (tb s) := by
  have hn := Lib.bytesWorld_at_new w 5 s
  refine ⟨_, c, by rw [tb_len], by rw [tb_len]; exact hc, fun _ => ⟨w.heap.size, 0, rfl, (Array.getElem?_eq_some_iff.1 hn).1, fun i hi => ?_⟩⟩
  rw [tb_len] at hi
  simp only [World.cell?, hn, Nat.zero_add]
  simp [Lib.bytesCells, tb, Array.getElem?_append, hi]
theorem text_any (w : World) (W : Nat) (lim : Int) (v : Value) (zs : List Int) (err : Int) (s : ByteArray) (hm : s.size ≤ 1099511627776) (h : WSt w W lim v zs err) :
    Calls Try.prog 95 #[.pointer (some ⟨W, 0, none⟩), .string s] w (Wrote w W lim v (putZ lim err zs (numB s.size ++ tb s)) (putE lim err zs (numB s.size ++ tb s).length)) := by
  have C := hide (number_any w s.size (by omega) (by omega))
  have hk := nb_le s.size (by omega)
  have hcv := fun W1 => Lib.run_convert_string_bytes (P := Try.prog) W1 9 32 5 s Try.underlying9 Try.underlying32 Try.underlying5
  have H := hide (fun W1 (hb1 : Below w.heap.size w W1) F (hF : w.heap.size ≤ F) (hx : BIn W1 (.slice (some ⟨F, 0, none⟩) (nb s.size + 1) 9) (numB s.size)) => put_after w (Lib.bytesWorld W1 5 s) W lim v zs err (some ⟨F, 0, none⟩) (some ⟨W1.heap.size, 0, none⟩) (nb s.size + 1) 9 s.size (grownCap W1 s.size 0 5) (numB s.size) (tb s) (hb1.trans ((below_bw W1 s).mono hb1.size)) h (hx.below (below_bw W1 s)) (bin_bw W1 s _ (grownCap_ge W1 s.size 0 5)) (newB_at w F 0 _ _ hF) (.inl (newB_at w _ 0 _ _ hb1.size)) (by omega) hm)
  have hm2 : s.size ≤ 9223372036854775807 := by omega
  generalize putE lim err zs (numB s.size ++ tb s).length = E at H ⊢
  generalize putZ lim err zs (numB s.size ++ tb s) = Z at H ⊢
  clear h hk
  go_enter Try.func95, Try.ntmps95
  go_wp2_with (first | ((go_at_call 156; refine (C.out).mono ?_; rintro e w1 ⟨F, rfl, hF, hx, hb⟩; have HX := hide hx; clear hx)) | ((go_at_call 155; refine (H.out _ hb _ hF HX.out).mono ?_; rintro e w2 ⟨rfl, hs⟩; have HS := hide hs; clear hs)))
  go_ret
  exact ⟨rfl, HS.out⟩
end WirE
end Go.Proofs.Ythcemghamdmjmaa

namespace Go.Proofs.Ythcemghamdmjmaa
namespace WirF
open Go.RowKit
open BlkM WirM WirS WirA WirB WirC WirD WirE

theorem hash_any (w : World) (W : Nat) (lim : Int) (v : Value) (zs : List Int) (err : Int) (l : List Int) (hl : l.length = 32) (h : WSt w W lim v zs err) :
    Calls Try.prog 100 #[.pointer (some ⟨W, 0, none⟩), .agg (b8 l).toArray] w (Wrote w W lim v (putZ lim err zs l) (putE lim err zs l.length)) := by
  have hx := BIn.new w 34 l 32 32 (0, 0) (by omega) (Nat.le_refl _)
  have H := hide (put_after w (w.alloc (.cells (b8 l).toArray 34)) W lim v zs err (some ⟨w.heap.size, 0, none⟩) none 32 32 0 0 _ [] (Below.alloc (Below.refl _ _) (Nat.le_refl _) _) h hx (BIn.nil _) (newB_at w _ 0 _ _ (Nat.le_refl _)) (.inl (newB_nil w 0 0)) (by omega) (by omega))
  rw [List.append_nil, show l.take 32 = l by rw [← hl, List.take_length]] at H
  generalize putE lim err zs l.length = E at H ⊢
  generalize putZ lim err zs l = Z at H ⊢
  clear h hx hl
  go_enter Try.func100, Try.ntmps100
  go_wp2_with ((go_at_call 155; refine (H.out).mono ?_; rintro e w2 ⟨rfl, hs⟩; have HS := hide hs; clear hs))
  go_ret
  exact ⟨rfl, HS.out⟩
theorem key_any (w : World) (W : Nat) (lim : Int) (v : Value) (zs : List Int) (err : Int) (l : List Int) (hl : l.length = 4) (h : WSt w W lim v zs err) :
    Calls Try.prog 101 #[.pointer (some ⟨W, 0, none⟩), .agg (b8 l).toArray] w (Wrote w W lim v (putZ lim err zs l) (putE lim err zs l.length)) := by
  have hx := BIn.new w 36 l 4 4 (0, 0) (by omega) (Nat.le_refl _)
  have H := hide (put_after w (w.alloc (.cells (b8 l).toArray 36)) W lim v zs err (some ⟨w.heap.size, 0, none⟩) none 4 4 0 0 _ [] (Below.alloc (Below.refl _ _) (Nat.le_refl _) _) h hx (BIn.nil _) (newB_at w _ 0 _ _ (Nat.le_refl _)) (.inl (newB_nil w 0 0)) (by omega) (by omega))
  rw [List.append_nil, show l.take 4 = l by rw [← hl, List.take_length]] at H
  generalize putE lim err zs l.length = E at H ⊢
  generalize putZ lim err zs l = Z at H ⊢
  clear h hx hl
  go_enter Try.func101, Try.ntmps101
  go_wp2_with ((go_at_call 155; refine (H.out).mono ?_; rintro e w2 ⟨rfl, hs⟩; have HS := hide hs; clear hs))
  go_ret
  exact ⟨rfl, HS.out⟩
/-- The form of a bool. -/
def boolB (b : Bool) : List Int := [if b then 1 else 0]
theorem bool_any (w : World) (W : Nat) (lim : Int) (v : Value) (zs : List Int) (err : Int) (b : Bool) (h : WSt w W lim v zs err) :
    Calls Try.prog 97 #[.pointer (some ⟨W, 0, none⟩), .bool b] w (Wrote w W lim v (putZ lim err zs (boolB b)) (putE lim err zs (boolB b).length)) := by
  have H : ∀ l : List Int, l.length = 1 → Hid (Calls Try.prog 155 #[.pointer (some ⟨W, 0, none⟩), .slice (some ⟨w.heap.size, 0, none⟩) 1 1, .slice none 0 0] (w.alloc (.cells (b8 l).toArray 228)) (Wrote w W lim v (putZ lim err zs l) (putE lim err zs l.length))) := fun l hl => by
    have hx := BIn.new w 228 l 1 1 (0, 0) (by omega) (Nat.le_refl _)
    have H := put_after w (w.alloc (.cells (b8 l).toArray 228)) W lim v zs err (some ⟨w.heap.size, 0, none⟩) none 1 1 0 0 _ [] (Below.alloc (Below.refl _ _) (Nat.le_refl _) _) h hx (BIn.nil _) (newB_at w _ 0 _ _ (Nat.le_refl _)) (.inl (newB_nil w 0 0)) (by omega) (by omega)
    rw [List.append_nil, show l.take 1 = l by rw [← hl, List.take_length]] at H
    exact hide H
  have H1 := H (boolB b) rfl
  generalize putE lim err zs (boolB b).length = E at H1 ⊢
  generalize putZ lim err zs (boolB b) = Z at H1 ⊢
  clear h H
  cases b
  all_goals
    go_enter Try.func97, Try.ntmps97
    go_wp2_with ((go_at_call 155; refine (H1.out).mono ?_; rintro e w2 ⟨rfl, hs⟩; have HS := hide hs; clear hs))
    go_ret
    exact ⟨rfl, HS.out⟩
/-- The form of a word. -/
def wordB (n : Int) : List Int := (cp n 8 8).drop 1
theorem wordB_len (n : Int) : (wordB n).length = 8 := by simp [wordB, cp_len]
theorem sl9l (D : Nat) (Y : World) : (Instr.sliceAt 226 (.pointer (some ⟨D, 0, none⟩)) (some (.int .i64 1)) none none).run Try.prog Y = .ok (.slice (some ⟨D, 1, none⟩) 8 8) Y := by
  have ha : Try.prog.arrayLen 226 = 9 := by kernel_rfl
  rw [run_sliceAt_array_l Y 226 ⟨D, 0, none⟩ (by kernel_rfl) .i64 1 (by omega) (by rw [ha]; omega), ha]
  have hs : (sizeOf (Try.prog.elem 226)).run Try.prog Y = .ok 1 Y := by kernel_rfl
  rw [hs]
  simp [slicedAt, Addr.add_lit]
set_option maxHeartbeats 1000000 in
theorem word_any (w : World) (W : Nat) (lim : Int) (v : Value) (zs : List Int) (err n : Int) (h0 : 0 ≤ n) (h1 : n < 18446744073709551616) (h : WSt w W lim v zs err) :
    Calls Try.prog 96 #[.pointer (some ⟨W, 0, none⟩), .int .u64 n] w (Wrote w W lim v (putZ lim err zs (wordB n)) (putE lim err zs (wordB n).length)) := by
  have C := hide (counted_any w n 8 (by omega) h0 h1)
  have H : ∀ W1 F, Below w.heap.size w W1 → w.heap.size ≤ F → At W1 F 226 (b8 (cp n 8 8)) → Hid (Calls Try.prog 155 #[.pointer (some ⟨W, 0, none⟩), .slice (some ⟨F, 1, none⟩) 8 8, .slice none 0 0] W1 (Wrote w W lim v (putZ lim err zs (wordB n)) (putE lim err zs (wordB n).length))) := fun W1 F hb hF hA => by
    have hx : BIn W1 (.slice (some ⟨F, 1, none⟩) 8 8) (wordB n) := by
      refine ⟨_, 8, by rw [wordB_len], by rw [wordB_len]; omega, fun _ => ⟨F, 1, rfl, hA.lt, fun i hi => ?_⟩⟩
      rw [wordB_len] at hi
      rw [hA.cell, b8_get _ (1 + i) (by rw [cp_len]; omega)]
      unfold wordB
      simp [List.getD, Nat.add_comm]
    have H := put_after w W1 W lim v zs err (some ⟨F, 1, none⟩) none 8 8 0 0 _ [] hb h hx (BIn.nil _) (newB_at w F 1 _ _ hF) (.inl (newB_nil w 0 0)) (by omega) (by omega)
    rw [List.append_nil] at H
    exact hide H
  have HH := hide H
  have hs := sl9l
  generalize putE lim err zs (wordB n).length = E at HH ⊢
  generalize putZ lim err zs (wordB n) = Z at HH ⊢
  clear h H
  go_enter Try.func96, Try.ntmps96
  go_upto_region 1 with fail
  refine wp_region_lit ?_
  refine sV (.int .u64 n) (w) (by kernel_rfl) (by kernel_rfl) ?_
  simp only [Act.put, List.setIfInBounds_toArray, List.set_cons_succ, List.set_cons_zero]
  refine sC (by kernel_rfl) (by kernel_rfl) C.out ?_
  rintro w2 hb2
  simp only [Act.put, List.setIfInBounds_toArray, List.set_cons_succ, List.set_cons_zero]
  obtain ⟨F, hF⟩ : ∃ F, F = w2.heap.size := ⟨_, rfl⟩
  refine sV (.pointer (some ⟨w2.heap.size, 0, none⟩)) (w2.alloc (.cells (b8 z9).toArray 226)) (by kernel_rfl) (al9 _ _ rfl w2) ?_
  simp only [Act.put, List.setIfInBounds_toArray, List.set_cons_succ, List.set_cons_zero]
  refine stepStore (by rfl) _ _ _ (by rfl) _ (b8 (cp n 8 8)) (by kernel_rfl) (by kernel_rfl) (At.new w2 226 (b8 z9)) 9 (by kernel_rfl) (by rw [b8_len]; rfl) (by rw [b8_len, cp_len]) (all_oneCell_toArray (one_b8 _)) ?_
  obtain ⟨W3, eW⟩ : ∃ X, X = (w2.alloc (.cells (b8 z9).toArray 226)).setRow w2.heap.size (b8 (cp n 8 8)).toArray := ⟨_, rfl⟩
  have hA : At W3 F 226 (b8 (cp n 8 8)) := by rw [eW, hF]; exact (At.new w2 _ (b8 z9)).put _
  have hB : Below w2.heap.size w2 W3 := by rw [eW]; exact Below.setRowOwn (Below.alloc (Below.refl _ _) (Nat.le_refl _) _) (Nat.le_refl _) _
  rw [← eW, ← hF]
  have K := HH.out W3 F (hb2.trans (hB.mono hb2.size)) (by rw [hF]; exact hb2.size) hA
  have hs := hs F
  clear eW hA hB hF hb2 C
  go_wp2_with ((go_at_call 155; refine (K.out).mono ?_; rintro e w4 ⟨rfl, hs⟩; have HS := hide hs; clear hs))
  go_ret
  exact ⟨rfl, HS.out⟩
/-! ### NewWriter, Done -/
theorem new_no (w : World) (lim : Int) (h : lim < 0 ∨ 1048576 < lim) : Calls Try.prog 20 #[.int .i64 lim] w fun e w' => e = .returned (.tuple #[.pointer none, .int .i64 3]) ∧ w = w' := by
  by_cases h0 : lim < 0
  · clear h
    go_enter Try.func20, Try.ntmps20
    go_wp2
    go_ret2
    exact ⟨rfl, rfl⟩
  · have h1 : 1048576 < lim := by omega
    clear h
    go_enter Try.func20, Try.ntmps20
    go_wp2
    go_ret2
    exact ⟨rfl, rfl⟩
theorem new_any (w : World) (lim : Int) (h0 : 0 ≤ lim) (h1 : lim ≤ 1048576) : Calls Try.prog 20 #[.int .i64 lim] w fun e w' => ∃ W, e = .returned (.tuple #[.pointer (some ⟨W, 0, none⟩), .int .i64 0]) ∧ w.heap.size ≤ W ∧ WSt w' W lim (.slice none 0 0) [] 0 ∧ Below w.heap.size w w' := by
  have k0 : ¬ lim < 0 := by omega
  have k1 : ¬ 1048576 < lim := by omega
  go_enter Try.func20, Try.ntmps20
  go_wp2
  go_ret2
  exact ⟨_, rfl, Nat.le_refl _, ⟨At.new w 59 (wcells w.heap.size lim (.slice none 0 0) 0), Own.nil _ _, by simp [Value.ownBlock], h0, h1, by simpa using h0⟩, Below.alloc (Below.refl _ _) (Nat.le_refl _) _⟩
/-- bytes.Clone. -/
theorem ownNew (w : World) : Own (w.alloc (.cells #[] 5)) 5 (.slice (some ⟨w.heap.size, 0, none⟩) 0 0) [] := World.ownsRow_made w #[] 0 (Nat.zero_le _) (Nat.zero_le _) (by simp)
theorem clone_any (w : World) (a : Option Addr) (n c : Nat) (zs : List Int) (h : BIn w (.slice a n c) zs) (hn : n ≤ 1099511627776) :
    Calls Try.prog 113 #[.slice a n c] w fun e w' => ∃ va vn vc, e = .returned (.slice va vn vc) ∧ Own w' 5 (.slice va vn vc) zs ∧ NewB w (.slice va vn vc) ∧ Below w.heap.size w w' := by
  obtain ⟨a', c', e1, hc, hz⟩ := id h
  obtain ⟨rfl, rfl, rfl⟩ : a = a' ∧ n = zs.length ∧ c = c' := by cases e1; exact ⟨rfl, rfl, rfl⟩
  cases a with
  | none =>
    have hz0 : zs = [] := by
      by_cases hne : zs = []
      · exact hne
      · obtain ⟨_, _, hx, _⟩ := hz hne
        cases hx
    subst hz0
    clear hz h hc e1
    have hq : ∀ W : World, (binOp .eql 32 (.slice none 0 c) (.slice none 0 0)).run Try.prog W = .ok (.bool true) W := fun W => Lib.run_eql_slice_nil W 32 _ _ _ _ _ _ Try.underlying32
    show Calls _ _ #[.slice none 0 c] w _
    go_enter Try.func113, Try.ntmps113
    go_wp2_with fail
    go_ret
    exact ⟨none, 0, 0, rfl, Own.nil _ _, newB_nil _ _ _, Below.refl _ _⟩
  | some ad =>
    obtain ⟨i0, hi, hz0, hz1, hz2⟩ := info_parts (show (Try.prog.info? 5).map (fun i => (i.zero, i.size, i.bytes)) = some (some (.int .u8 0), 1, 1) by kernel_rfl)
    have hb : Below w.heap.size w (w.alloc (.cells #[] 5)) := Below.alloc (Below.refl _ _) (Nat.le_refl _) _
    obtain ⟨v1, u1, r1, o1, f1, n1⟩ := app_any (P := Try.prog) (w.alloc (.cells #[] 5)) 32 32 32 5 i0 _ Try.underlying32 hi hz0 hz1 hz2 rfl (.slice (some ⟨w.heap.size, 0, none⟩) 0 0) (.slice (some ad) zs.length c) [] zs (ownNew w) ((h.below hb).src Try.underlying32) (by simpa using hn)
    have HB := hide (hb.trans (f1.below (B := w.heap.size) (by simp) (fun k hk hx => by simp [Value.ownBlock] at hx; omega)))
    have HN := hide (show NewB w v1 from fun k hk => by
      rcases n1 k hk with hx | hx
      · simp [Value.ownBlock] at hx
        omega
      · simp at hx
        omega)
    rw [List.nil_append] at o1
    have HO := hide o1
    have hq : ∀ W : World, (binOp .eql 32 (.slice (some ad) zs.length c) (.slice none 0 0)).run Try.prog W = .ok (.bool false) W := fun W => Lib.run_eql_slice_nil W 32 _ _ _ _ _ _ Try.underlying32
    clear hb f1 n1 o1 hz h hc e1 hi hz0 hz1 hz2
    go_enter Try.func113, Try.ntmps113
    go_upto_region 3 with fail
    refine wp_region_lit ?_
    refine sV (.slice (some ⟨w.heap.size, 0, none⟩) 0 0) (w.alloc (.cells #[] 5)) (by kernel_rfl) (by kernel_rfl) ?_
    simp only [Act.put, List.setIfInBounds_toArray, List.set_cons_succ, List.set_cons_zero]
    refine sV (.slice (some ad) zs.length c) (w.alloc (.cells #[] 5)) (by kernel_rfl) (by kernel_rfl) ?_
    simp only [Act.put, List.setIfInBounds_toArray, List.set_cons_succ, List.set_cons_zero]
    refine sA (by kernel_rfl) 32 32 _ _ (by rfl) (.slice (some ⟨w.heap.size, 0, none⟩) 0 0) (.slice (some ad) zs.length c) (by kernel_rfl) (by kernel_rfl) (v1) (u1) r1 ?_
    simp only [Act.put, List.setIfInBounds_toArray, List.set_cons_succ, List.set_cons_zero]
    clear r1 hq
    obtain ⟨a2, c2, e2⟩ := len_of HO.out
    obtain ⟨n2, hn2⟩ : ∃ n2, n2 = zs.length := ⟨_, rfl⟩
    rw [← hn2] at e2
    subst e2
    clear hn2
    go_wp2_with fail
    go_ret
    exact ⟨a2, n2, c2, rfl, HO.out, HN.out, HB.out⟩
theorem done_none (w : World) (p : Option Addr) (h : NoW w p) : Calls Try.prog 27 #[.pointer p] w fun e w' => e = .returned (.tuple #[.slice none 0 0, .int .i64 1]) ∧ w = w' := by
  have H := hide (state_none w p h)
  clear h
  go_enter Try.func27, Try.ntmps27
  go_wp2_with ((go_at_call 112; refine (H.out).mono ?_; rintro e w1 ⟨rfl, rfl⟩))
  go_ret2
  exact ⟨rfl, rfl⟩
theorem done_err (w : World) (W : Nat) (lim : Int) (v : Value) (zs : List Int) (err : Int) (h : WSt w W lim v zs err) (he : err ≠ 0) : Calls Try.prog 27 #[.pointer (some ⟨W, 0, none⟩)] w fun e w' => e = .returned (.tuple #[.slice none 0 0, .int .i64 err]) ∧ w = w' := by
  have H := hide (state_any w W lim v zs err h)
  have hb : (err != 0) = true := by simpa using he
  have hb2 : (err == 0) = false := by simpa using he
  clear h he
  go_enter Try.func27, Try.ntmps27
  go_wp2_with ((go_at_call 112; refine (H.out).mono ?_; rintro e w1 ⟨rfl, rfl⟩))
  go_ret2
  exact ⟨rfl, rfl⟩
theorem done_ok (w : World) (W : Nat) (lim : Int) (v : Value) (zs : List Int) (h : WSt w W lim v zs 0) :
    Calls Try.prog 27 #[.pointer (some ⟨W, 0, none⟩)] w fun e w' => ∃ va vn vc, e = .returned (.tuple #[.slice va vn vc, .int .i64 0]) ∧ Own w' 5 (.slice va vn vc) zs ∧ NewB w (.slice va vn vc) ∧ Below w.heap.size w w' := by
  obtain ⟨va, vc, hv⟩ := len_of h.own
  have c2 : w.cell? ⟨W, 2, none⟩ = some (.slice va zs.length vc) := by rw [h.at'.cell, hv]; rfl
  have H := hide (state_any w W lim v zs 0 h)
  have hx := h.own.bin
  have h1 := h.fits
  have h2 := h.high
  rw [hv] at hx
  have C := hide (clone_any w va zs.length vc zs hx (by omega))
  obtain ⟨k, hk⟩ : ∃ k, k = zs.length := ⟨_, rfl⟩
  rw [← hk] at c2 C
  clear h hx hv hk h1
  go_enter Try.func27, Try.ntmps27
  go_wp2_with (first | ((go_at_call 112; refine (H.out).mono ?_; rintro e w1 ⟨rfl, rfl⟩)) | ((go_at_call 113; refine (C.out).mono ?_; rintro e w2 ⟨xa, xn, xc, rfl, ho, hn, hb⟩; have HO := hide ho; clear ho)))
  go_ret2
  exact ⟨xa, xn, xc, rfl, HO.out, hn, hb⟩
end WirF
end Go.Proofs.Ythcemghamdmjmaa

