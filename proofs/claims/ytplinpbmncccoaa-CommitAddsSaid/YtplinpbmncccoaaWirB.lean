/-
  The program's writer: put.
-/
import Derived.Test.YtplinpbmncccoaaWirA
namespace Go.Proofs.Ytplinpbmncccoaa
namespace WirB
open Go.RowKit
open BlkM WirM WirS WirA

theorem put_none (w : World) (p : Option Addr) (a b : Option Addr) (n c m d : Nat) (h : NoW w p) : Calls Try.prog 148 #[.pointer p, .slice a n c, .slice b m d] w fun e w' => e = .returned (.int .i64 1) ∧ w = w' := by
  have H := hide (fun W (k : NoW W p) => state_none W p k)
  have HN := hide h
  clear h
  go_enter Try.func148, Try.ntmps148
  go_wp2_with ((go_at_call 105; refine (H.out _ HN.out).mono ?_; rintro e w1 ⟨rfl, rfl⟩))
  go_ret
  exact ⟨rfl, rfl⟩
theorem put_err (w : World) (W : Nat) (lim : Int) (v : Value) (zs : List Int) (err : Int) (a b : Option Addr) (n c m d : Nat) (h : WSt w W lim v zs err) (he : err ≠ 0) : Calls Try.prog 148 #[.pointer (some ⟨W, 0, none⟩), .slice a n c, .slice b m d] w fun e w' => e = .returned (.int .i64 err) ∧ w = w' := by
  have H := hide (state_any w W lim v zs err h)
  have hb : (err != 0) = true := by simpa using he
  have hb2 : (err == 0) = false := by simpa using he
  clear h he
  go_enter Try.func148, Try.ntmps148
  go_wp2_with ((go_at_call 105; refine (H.out).mono ?_; rintro e w1 ⟨rfl, rfl⟩))
  go_ret
  exact ⟨rfl, rfl⟩
theorem len_of {w : World} {T : TypeId} {v : Value} {zs : List Int} (h : Own w T v zs) : ∃ a cap, v = .slice a zs.length cap := by
  obtain ⟨a, cap, rfl, _⟩ := h.bin
  exact ⟨a, cap, rfl⟩
theorem Fr.drewN {X : Nat → Prop} {w w' : World} (h : Fr X w w') (n : Nat) : Fr X w (w'.drewN n) := ⟨h.os, h.tape, h.output, h.size, h.block⟩
theorem Wrote.pre {w w1 : World} {W : Nat} {lim : Int} {v : Value} {zs' : List Int} {err' : Int} {e : Ending} {w' : World} (hb : Below w.heap.size w w1) (h : Wrote w1 W lim v zs' err' e w') : Wrote w W lim v zs' err' e w' := by
  obtain ⟨h1, v', h2, h3⟩ := h
  exact ⟨h1, v', h2, (Step.of_below hb).trans h3⟩
theorem WSt_drewN {w : World} {W : Nat} {lim : Int} {v : Value} {zs : List Int} {err : Int} (h : WSt w W lim v zs err) (n : Nat) : WSt (w.drewN n) W lim v zs err :=
  h.fr (X := fun _ => False) (Fr.drewN (Fr.refl _ w) n) (fun _ _ h => h)
set_option maxHeartbeats 800000 in
theorem put_long (w : World) (W : Nat) (lim : Int) (v : Value) (zs : List Int) (a b : Option Addr) (n c m d : Nat) (h : WSt w W lim v zs 0) (hn : n ≤ 1099511627776) (hm : m ≤ 1099511627776) (hl : lim < (zs.length : Int) + ((n + m : Nat) : Int)) :
    Calls Try.prog 148 #[.pointer (some ⟨W, 0, none⟩), .slice a n c, .slice b m d] w (Wrote w W lim v zs 4) := by
  obtain ⟨va, vc, hv⟩ := len_of h.own
  have c1 : w.cell? ⟨W, 1, none⟩ = some (.int .i64 lim) := by rw [h.at'.cell]; rfl
  have c2 : w.cell? ⟨W, 2, none⟩ = some (.slice va zs.length vc) := by rw [h.at'.cell, hv]; rfl
  have hlo := h.low
  have hhi := h.high
  have hfit := h.fits
  have H := hide (state_any w W lim v zs 0 h)
  have HF := hide (fun q => (fail_ok (w.drewN q) W lim v zs 4 (WSt_drewN h q)))
  obtain ⟨k, hk⟩ : ∃ k, k = zs.length := ⟨_, rfl⟩
  rw [← hk] at c2 hfit hl
  have w1 : IntKind.i64.wrap (↑n + ↑m) = (n : Int) + (m : Int) := IntWalk.i64_in _ (by omega)
  have w2 : IntKind.i64.wrap (lim - ↑k) = lim - (k : Int) := IntWalk.i64_in _ (by omega)
  have w3 : decide (lim - (k : Int) < (n : Int) + (m : Int)) = true := decide_eq_true (by omega)
  clear hv hk h
  go_enter Try.func148, Try.ntmps148
  go_upto_region 4 with ((go_at_call 105; refine (H.out).mono ?_; rintro e w1 ⟨rfl, rfl⟩))
  go_quiet (fail)
  go_wp2_with ((go_at_call 147; refine (HF.out _).mono ?_; rintro e w1 ⟨rfl, hs⟩))
  go_ret
  exact Wrote.pre (below_drewN (Below.refl _ _) _) ⟨rfl, hs⟩
/-- Not in a block of the writer. -/
def Apart (W : Nat) (v x : Value) : Prop := Off (Xw W v) x
set_option maxHeartbeats 1600000 in
theorem put_ok (w : World) (W : Nat) (lim : Int) (v : Value) (zs : List Int) (a b : Option Addr) (n c m d : Nat) (hs bd : List Int) (h : WSt w W lim v zs 0)
    (hx : BIn w (.slice a n c) hs) (hy : BIn w (.slice b m d) bd) (ox : Apart W v (.slice a n c)) (oy : Apart W v (.slice b m d)) (hl : (zs.length : Int) + ((n + m : Nat) : Int) ≤ lim) :
    Calls Try.prog 148 #[.pointer (some ⟨W, 0, none⟩), .slice a n c, .slice b m d] w (Wrote w W lim v (zs ++ (hs ++ bd)) 0) := by
  obtain ⟨va, vc, hv⟩ := len_of h.own
  obtain ⟨_, _, e1, _⟩ := id hx
  obtain ⟨_, _, e2, _⟩ := id hy
  have hnl : n = hs.length := by cases e1; rfl
  have hml : m = bd.length := by cases e2; rfl
  have c1 : w.cell? ⟨W, 1, none⟩ = some (.int .i64 lim) := by rw [h.at'.cell]; rfl
  have c2 : w.cell? ⟨W, 2, none⟩ = some (.slice va zs.length vc) := by rw [h.at'.cell, hv]; rfl
  have hlo := h.low
  have hhi := h.high
  have hfit := h.fits
  have H := hide (state_any w W lim v zs 0 h)
  obtain ⟨k, hk⟩ : ∃ k, k = zs.length := ⟨_, rfl⟩
  have hl0 := hl
  rw [← hk] at c2 hfit hl
  have w1 : IntKind.i64.wrap (↑n + ↑m) = (n : Int) + (m : Int) := IntWalk.i64_in _ (by omega)
  have w2 : IntKind.i64.wrap (lim - ↑k) = lim - (k : Int) := IntWalk.i64_in _ (by omega)
  have w3 : decide (lim - (k : Int) < (n : Int) + (m : Int)) = false := decide_eq_false (by omega)
  obtain ⟨i0, hi, hz0, hz1, hz2⟩ := info_parts (show (Try.prog.info? 5).map (fun i => (i.zero, i.size, i.bytes)) = some (some (.int .u8 0), 1, 1) by kernel_rfl)
  -- what the two appends yield, in whatever world the test is left
  have HA : ∀ q, ∃ v1 u1 v2 u2, (Builtin.append_ #[32, 32] 32 #[v, .slice a n c]).run Try.prog (w.drewN q) = .ok v1 u1 ∧ (Builtin.append_ #[32, 32] 32 #[v1, .slice b m d]).run Try.prog u1 = .ok v2 u2 ∧
      Own u2 5 v2 (zs ++ (hs ++ bd)) ∧ Step w W v u2 v2 ∧ v2.ownBlock ≠ some W ∧ At u2 W 59 (wcells W lim v 0) := fun q => by
    have hd : Fr (Xw W v) w (w.drewN q) := Fr.drewN (Fr.refl _ w) q
    have hd0 : Fr (fun _ => False) w (w.drewN q) := Fr.drewN (Fr.refl _ w) q
    obtain ⟨v1, u1, r1, o1, f1, n1⟩ := app_any (P := Try.prog) (w.drewN q) 32 32 32 5 i0 _ Try.underlying32 hi hz0 hz1 hz2 rfl v (.slice a n c) zs hs (h.own.fr hd0 (fun _ _ h => h)) ((hx.fr hd0 (fun _ _ h => h)).src Try.underlying32) (by omega)
    have hW1 : v1.ownBlock ≠ some W := fun e => by
      rcases n1 W e with e | e
      · exact h.off e
      · have := h.lt
        exact absurd (show w.heap.size ≤ W from e) (by omega)
    have hoff1 : Off (fun k => v.ownBlock = some k) (.slice b m d) := fun k hk hx => oy k hk (.inr hx)
    have hy1 : BIn u1 (.slice b m d) bd := (hy.fr hd0 (fun _ _ h => h)).fr f1 hoff1
    obtain ⟨v2, u2, r2, o2, f2, n2⟩ := app_any (P := Try.prog) u1 32 32 32 5 i0 _ Try.underlying32 hi hz0 hz1 hz2 rfl v1 (.slice b m d) (zs ++ hs) bd o1 (hy1.src Try.underlying32) (by rw [List.length_append]; omega)
    have s1 : Step w W v u1 v1 := ⟨hd.trans (f1.mono fun i _ hi => .inr hi), n1⟩
    have s2 : Step u1 W v1 u2 v2 := ⟨f2.mono fun i _ hi => .inr hi, n2⟩
    have hW2 : v2.ownBlock ≠ some W := fun e => by
      rcases n2 W e with e | e
      · exact hW1 e
      · have := h.lt
        have := s1.1.size
        omega
    refine ⟨v1, u1, v2, u2, r1, r2, by rw [← List.append_assoc]; exact o2, s1.trans s2, hW2, ?_⟩
    exact At.fr (At.fr (At.fr h.at' hd0 (fun h => h)) f1 (fun e => h.off e)) f2 (fun e => hW1 e)
  have HA := hide HA
  have HH := hide h
  have HV := hide hv
  have HK := hide hk
  have HL := hide (show ((zs ++ (hs ++ bd)).length : Int) ≤ lim by simp only [List.length_append]; omega)
  clear hv hk h hx hy ox oy hnl hml e1 e2 hi hz0 hz1 hz2
  go_enter Try.func148, Try.ntmps148
  go_upto_region 4 with ((go_at_call 105; refine (H.out).mono ?_; rintro e w1 ⟨rfl, rfl⟩))
  go_quiet (fail)
  go_upto_region 6 with fail
  rename_i nq _ _
  obtain ⟨v1, u1, v2, u2, r1, r2, own2, st2, off2, at2⟩ := HA.out nq
  have c2' : (w.drewN nq).cell? ⟨W, 2, none⟩ = some v := by rw [HV.out, ← HK.out]; simpa using c2
  have hf := at2.frozen 2
  have hc : u2.cell? ⟨W, 2, none⟩ = some v := by rw [at2.cell]; rfl
  refine wp_region_lit ?_
  refine sV (.pointer (some ⟨W, 0, none⟩)) (w.drewN nq) (by kernel_rfl) (by kernel_rfl) ?_
  simp only [Act.put, List.setIfInBounds_toArray, List.set_cons_succ, List.set_cons_zero]
  refine sV (.pointer (some ⟨W, 0, none⟩)) (w.drewN nq) (by kernel_rfl) (by kernel_rfl) ?_
  simp only [Act.put, List.setIfInBounds_toArray, List.set_cons_succ, List.set_cons_zero]
  refine sV (.pointer (some ⟨W, 0, none⟩)) (w.drewN nq) (by kernel_rfl) (by kernel_rfl) ?_
  simp only [Act.put, List.setIfInBounds_toArray, List.set_cons_succ, List.set_cons_zero]
  refine sV (.pointer (some ⟨W, 2, none⟩)) (w.drewN nq) (by kernel_rfl) (by kernel_rfl) ?_
  simp only [Act.put, List.setIfInBounds_toArray, List.set_cons_succ, List.set_cons_zero]
  refine sP (by kernel_rfl) _ _ (by rfl) ⟨W, 2, none⟩ (by kernel_rfl) (v) c2' (by kernel_rfl) ?_
  simp only [Act.put, List.setIfInBounds_toArray, List.set_cons_succ, List.set_cons_zero]
  refine sV (.slice a n c) (w.drewN nq) (by kernel_rfl) (by kernel_rfl) ?_
  simp only [Act.put, List.setIfInBounds_toArray, List.set_cons_succ, List.set_cons_zero]
  refine sA (by kernel_rfl) 32 32 _ _ (by rfl) (v) (.slice a n c) (by kernel_rfl) (by kernel_rfl) (v1) (u1) r1 ?_
  simp only [Act.put, List.setIfInBounds_toArray, List.set_cons_succ, List.set_cons_zero]
  refine sV (.slice b m d) (u1) (by kernel_rfl) (by kernel_rfl) ?_
  simp only [Act.put, List.setIfInBounds_toArray, List.set_cons_succ, List.set_cons_zero]
  refine sA (by kernel_rfl) 32 32 _ _ (by rfl) (v1) (.slice b m d) (by kernel_rfl) (by kernel_rfl) (v2) (u2) r2 ?_
  simp only [Act.put, List.setIfInBounds_toArray, List.set_cons_succ, List.set_cons_zero]
  clear c2' r1 r2
  obtain ⟨a2, c2, e2⟩ := len_of own2
  obtain ⟨n2, hn2⟩ : ∃ n2, n2 = (zs ++ (hs ++ bd)).length := ⟨_, rfl⟩
  rw [← hn2] at e2
  subst e2
  clear hn2
  go_wp2_with fail
  go_ret
  have h := HH.out
  refine ⟨rfl, _, ⟨at2.setCell 2 _, own2.fr (X := fun k => k = W) ((Fr.refl _ u2).setCell W 2 _ (fun _ => rfl)) (fun k hk hx => off2 (by rw [hk, hx])), off2, h.low, h.high, ?_⟩, st2.1.setCell W 2 _ (fun _ => .inl rfl), st2.2⟩
  exact HL.out
end WirB
end Go.Proofs.Ytplinpbmncccoaa
