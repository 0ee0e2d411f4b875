/-
  The program's reader: a hash, a key taken and read.
-/
import Derived.Test.YtplinpbmncccoaaWirN
namespace Go.Proofs.Ytplinpbmncccoaa
namespace WirO
open Go.RowKit
open BlkM WirM WirS WirA WirB WirE WirF WirG WirH WirI WirJ WirK WirL WirN

def rowO (n : Nat) (bs : List Int) (at' : Nat) : Sum Int (List Int × Nat) :=
  if bs.length < at' + n then .inl 6 else .inr ((bs.drop at').take n, at' + n)
theorem Fr.setRow {X : Nat → Prop} {w w' : World} (h : Fr X w w') (V : Nat) (c : Array Value) (hV : V < w.heap.size → X V) : Fr X w (w'.setRow V c) :=
  ⟨h.os, h.tape, h.output, by simpa using h.size, fun k hk hx => by
    rw [setRow_other w' V k c (fun e => by subst e; exact hx (hV hk))]
    exact h.block k hk hx⟩
theorem RSt_row {w0 w : World} {R : Nat} {a : Option Addr} {c : Nat} {bs : List Int} {at' : Nat} {fe fa : Int} (h : RSt w R a c bs at' fe fa) (V : Nat) (cs : Array Value) (hV : R ≠ V) (ho : ∀ k, (Value.slice a bs.length c).ownBlock = some k → k < w0.heap.size) (h0 : w0.heap.size ≤ V) : RSt (w.setRow V cs) R a c bs at' fe fa :=
  h.fr (X := fun k => k = V) (Fr.setRow (Fr.refl _ w) V cs (fun _ => rfl)) hV (fun k hk hx => by
    have := ho k hk
    have hx' : k = V := hx
    omega)
theorem own_lt {w : World} {a : Option Addr} {n c : Nat} {zs : List Int} (h : BIn w (.slice a n c) zs) (hne : zs ≠ []) : ∀ k, (Value.slice a n c).ownBlock = some k → k < w.heap.size := by
  obtain ⟨a', c', e1, _, hz⟩ := h
  obtain ⟨rfl, rfl, rfl⟩ : a = a' ∧ n = zs.length ∧ c = c' := by cases e1; exact ⟨rfl, rfl, rfl⟩
  obtain ⟨B, o, rfl, hB, _⟩ := hz hne
  intro k hk
  simp [Value.ownBlock] at hk
  omega
set_option maxHeartbeats 1000000 in
theorem take_short_hash (w : World) (R : Nat) (a : Option Addr) (c : Nat) (bs : List Int) (at' : Nat) (fv : Value) (h : RSt w R a c bs at' 0 0) (hs : bs.length < at' + 32) :
    Calls Try.prog 129 #[.pointer (some ⟨R, 0, none⟩), .int .i64 32, fv] w (Bad w R a c bs 6) := by
  obtain ⟨W0, e0⟩ : ∃ X, X = w.alloc (.cells (b8 (zz 32)).toArray 34) := ⟨_, rfl⟩
  have hB0 : Below w.heap.size w W0 := by rw [e0]; exact Below.alloc (Below.refl _ _) (Nat.le_refl _) _
  have h0 := h.below hB0
  have c1 : W0.cell? ⟨R, 1, none⟩ = some (.slice a bs.length c) := by rw [h0.cell.cell]; rfl
  have c2 : W0.cell? ⟨R, 2, none⟩ = some (.int .i64 (at' : Int)) := by rw [h0.cell.cell]; rfl
  have hle := h.le
  have hsm := h.small
  have HR := hide (fun q => RSt_drawn h0 q)
  have HB0 := hide hB0
  have E0 := hide e0
  obtain ⟨k, hk⟩ : ∃ k, k = bs.length := ⟨_, rfl⟩
  rw [← hk] at hle hsm hs c1
  have w1 : IntKind.i64.wrap (↑k - ↑at') = (k : Int) - (at' : Int) := IntWalk.i64_in _ (by omega)
  have w3 : decide ((k : Int) - (at' : Int) < 32) = true := decide_eq_true (by omega)
  clear h hk h0 hB0 e0
  go_enter Try.func129, Try.ntmps129
  go_upto_region 1 with fail
  rw [show w.alloc (.cells #[.int .u8 0, .int .u8 0, .int .u8 0, .int .u8 0, .int .u8 0, .int .u8 0, .int .u8 0, .int .u8 0, .int .u8 0, .int .u8 0, .int .u8 0, .int .u8 0, .int .u8 0, .int .u8 0, .int .u8 0, .int .u8 0, .int .u8 0, .int .u8 0, .int .u8 0, .int .u8 0, .int .u8 0, .int .u8 0, .int .u8 0, .int .u8 0, .int .u8 0, .int .u8 0, .int .u8 0, .int .u8 0, .int .u8 0, .int .u8 0, .int .u8 0, .int .u8 0] 34) = W0 from E0.out.symm]
  go_quiet (fail)
  go_wp2_with fail
  exact ⟨rfl, rfl, ⟨at', HR.out _⟩, Fr.drewN (Fr.of_below HB0.out) _⟩
set_option maxRecDepth 8000 in
set_option maxHeartbeats 1000000 in
theorem take_hash (w : World) (R : Nat) (a : Option Addr) (c : Nat) (bs : List Int) (at' : Nat) (h : RSt w R a c bs at' 0 0) (hn : at' + 32 ≤ bs.length) :
    Calls Try.prog 129 #[.pointer (some ⟨R, 0, none⟩), .int .i64 32, .func (.func 130) #[] #[]] w (Got w R a c bs (.agg (b8 ((bs.drop at').take 32)).toArray) (at' + 32)) := by
  have hlt := h.lt
  have hzl : ((bs.drop at').take 32).length = 32 := by simp; omega
  obtain ⟨W0, e0⟩ : ∃ X, X = w.alloc (.cells (b8 (zz 32)).toArray 34) := ⟨_, rfl⟩
  have hB0 : Below w.heap.size w W0 := by rw [e0]; exact Below.alloc (Below.refl _ _) (Nat.le_refl _) _
  have hA0 : At W0 w.heap.size 34 (b8 (zz 32)) := by rw [e0]; exact At.new _ _ _
  have h0 := h.below hB0
  have c1 : W0.cell? ⟨R, 1, none⟩ = some (.slice a bs.length c) := by rw [h0.cell.cell]; rfl
  have c2 : W0.cell? ⟨R, 2, none⟩ = some (.int .i64 (at' : Int)) := by rw [h0.cell.cell]; rfl
  have f2 : W0.frozen? ⟨R, 2, none⟩ = false := h0.cell.frozen 2
  have hle := h.le
  have hsm := h.small
  obtain ⟨m, hm⟩ : ∃ m, m = at' + 32 := ⟨_, rfl⟩
  have hcap : bs.length ≤ c := by obtain ⟨_, _, e1, hc, _⟩ := h.bin; cases e1; exact hc
  have HW := hide (fun q => show RSt ((W0.drewN q).setCell ⟨R, 2, none⟩ (.int .i64 (m : Int))) R a c bs (at' + 32) 0 0 ∧ Fr (Xr R) W0 ((W0.drewN q).setCell ⟨R, 2, none⟩ (.int .i64 (m : Int))) from ⟨by rw [hm]; exact RSt_move (RSt_drawn h0 q) (at' + 32) hn, (Fr.drewN (Fr.refl (Xr R) W0) q).setCell R 2 _ (fun _ => rfl)⟩)
  have HO := hide (own_lt h.bin (by intro e; rw [e] at hn; simp at hn))
  obtain ⟨k, hk⟩ : ∃ k, k = bs.length := ⟨_, rfl⟩
  have HN := hide hn
  rw [← hk] at hle hsm hn c1 hcap
  have w1 : IntKind.i64.wrap (↑k - ↑at') = (k : Int) - (at' : Int) := IntWalk.i64_in _ (by omega)
  have w2 : IntKind.i64.wrap (↑at' + 32) = (m : Int) := by rw [IntWalk.i64_in _ (by omega)]; omega
  have w4 : (at' : Int) + 32 = (m : Int) := by omega
  have w3 : decide ((k : Int) - (at' : Int) < 32) = false := decide_eq_false (by omega)
  have hsl := slR a k c at' m 32 hm (by omega) hcap
  have HK := hide hk
  have HM := hide hm
  have HB0 := hide hB0
  have HA0 := hide hA0
  have E0 := hide e0
  have HZ := hide hzl
  clear h hk hm h0 hB0 hA0 e0 hzl
  go_enter Try.func129, Try.ntmps129
  go_upto_region 1 with fail
  rw [show w.alloc (.cells #[.int .u8 0, .int .u8 0, .int .u8 0, .int .u8 0, .int .u8 0, .int .u8 0, .int .u8 0, .int .u8 0, .int .u8 0, .int .u8 0, .int .u8 0, .int .u8 0, .int .u8 0, .int .u8 0, .int .u8 0, .int .u8 0, .int .u8 0, .int .u8 0, .int .u8 0, .int .u8 0, .int .u8 0, .int .u8 0, .int .u8 0, .int .u8 0, .int .u8 0, .int .u8 0, .int .u8 0, .int .u8 0, .int .u8 0, .int .u8 0, .int .u8 0, .int .u8 0] 34) = W0 from E0.out.symm]
  go_quiet (fail)
  go_upto_region 5 with fail
  obtain ⟨W5, e5⟩ : ∃ X, X = (W0.drewN nq).setCell ⟨R, 2, none⟩ (.int .i64 (m : Int)) := ⟨_, rfl⟩
  rw [← e5]
  have HW5 := HW.out nq
  rw [← e5] at HW5
  have c1' : W5.cell? ⟨R, 1, none⟩ = some (.slice a k c) := by rw [HW5.1.cell.cell, HK.out]; rfl
  have c2' : W5.cell? ⟨R, 2, none⟩ = some (.int .i64 (m : Int)) := by rw [HW5.1.cell.cell, HM.out]; rfl
  have HR5 := hide (RSt_drew HW5.1)
  have HF5 := hide (Fr.drew HW5.2)
  have HA5 := hide (At.fr HA0.out HF5.out (fun h => by have : w.heap.size = R := h; omega))
  clear e5 HW5 c1 c2 f2 w1 w2 w3 w4
  go_still_tail 11, (by kernel_rfl)
  refine sC (by kernel_rfl) (by kernel_rfl) (hash_any W5.drew (sa a c at') 32 (c - at') _ (bin_sub HR5.out.bin at' 32 HN.out) HZ.out) ?_
  intro w6 hb6
  simp only [Act.put, List.setIfInBounds_toArray, List.set_cons_succ, List.set_cons_zero]
  have HA6 := hide (HA5.out.below hb6 HA5.out.lt)
  have HR6 := hide (HR5.out.below hb6)
  have HF6 := hide (((Fr.of_below HB0.out).trans HF5.out).trans (Fr.of_below hb6))
  clear hb6
  refine stepStore (by rfl) _ _ _ (by rfl) _ (b8 ((bs.drop at').take 32)) (by kernel_rfl) (by kernel_rfl) HA6.out 32 (by kernel_rfl) (by rw [b8_len]; rfl) (by rw [b8_len]; exact HZ.out) (all_oneCell_toArray (one_b8 _)) ?_
  obtain ⟨WL, eWL⟩ : ∃ X, X = w6.setRow w.heap.size (b8 ((bs.drop at').take 32)).toArray := ⟨_, rfl⟩
  have HAL := hide (show At WL w.heap.size 34 (b8 ((bs.drop at').take 32)) by rw [eWL]; exact HA6.out.put _)
  have HFL := hide (show Fr (Xr R) w WL by rw [eWL]; exact Fr.setRow HF6.out _ _ (fun h => absurd h (Nat.lt_irrefl _)))
  have HRL := hide (show RSt WL R a c bs (at' + 32) 0 0 by rw [eWL]; exact RSt_row HR6.out _ _ (by omega) HO.out (Nat.le_refl _))
  have HLL := hide (show (b8 ((bs.drop at').take 32)).length = 32 by rw [b8_len]; exact HZ.out)
  rw [← eWL]
  clear eWL
  go_wp2_with fail
  exact bodyPost_ret (retRow HAL.out Try.results129 _ (by rfl) (.array 32 5) 32 Try.underlying34 rfl (by kernel_rfl) HLL.out) rfl ⟨rfl, HRL.out, HFL.out⟩
set_option maxHeartbeats 1000000 in
theorem take_short_key (w : World) (R : Nat) (a : Option Addr) (c : Nat) (bs : List Int) (at' : Nat) (fv : Value) (h : RSt w R a c bs at' 0 0) (hs : bs.length < at' + 4) :
    Calls Try.prog 133 #[.pointer (some ⟨R, 0, none⟩), .int .i64 4, fv] w (Bad w R a c bs 6) := by
  obtain ⟨W0, e0⟩ : ∃ X, X = w.alloc (.cells (b8 (zz 4)).toArray 36) := ⟨_, rfl⟩
  have hB0 : Below w.heap.size w W0 := by rw [e0]; exact Below.alloc (Below.refl _ _) (Nat.le_refl _) _
  have h0 := h.below hB0
  have c1 : W0.cell? ⟨R, 1, none⟩ = some (.slice a bs.length c) := by rw [h0.cell.cell]; rfl
  have c2 : W0.cell? ⟨R, 2, none⟩ = some (.int .i64 (at' : Int)) := by rw [h0.cell.cell]; rfl
  have hle := h.le
  have hsm := h.small
  have HR := hide (fun q => RSt_drawn h0 q)
  have HB0 := hide hB0
  have E0 := hide e0
  obtain ⟨k, hk⟩ : ∃ k, k = bs.length := ⟨_, rfl⟩
  rw [← hk] at hle hsm hs c1
  have w1 : IntKind.i64.wrap (↑k - ↑at') = (k : Int) - (at' : Int) := IntWalk.i64_in _ (by omega)
  have w3 : decide ((k : Int) - (at' : Int) < 4) = true := decide_eq_true (by omega)
  clear h hk h0 hB0 e0
  go_enter Try.func133, Try.ntmps133
  go_upto_region 1 with fail
  rw [show w.alloc (.cells #[.int .u8 0, .int .u8 0, .int .u8 0, .int .u8 0] 36) = W0 from E0.out.symm]
  go_quiet (fail)
  go_wp2_with fail
  exact ⟨rfl, rfl, ⟨at', HR.out _⟩, Fr.drewN (Fr.of_below HB0.out) _⟩
set_option maxRecDepth 8000 in
set_option maxHeartbeats 1000000 in
theorem take_key (w : World) (R : Nat) (a : Option Addr) (c : Nat) (bs : List Int) (at' : Nat) (h : RSt w R a c bs at' 0 0) (hn : at' + 4 ≤ bs.length) :
    Calls Try.prog 133 #[.pointer (some ⟨R, 0, none⟩), .int .i64 4, .func (.func 134) #[] #[]] w (Got w R a c bs (.agg (b8 ((bs.drop at').take 4)).toArray) (at' + 4)) := by
  have hlt := h.lt
  have hzl : ((bs.drop at').take 4).length = 4 := by simp; omega
  obtain ⟨W0, e0⟩ : ∃ X, X = w.alloc (.cells (b8 (zz 4)).toArray 36) := ⟨_, rfl⟩
  have hB0 : Below w.heap.size w W0 := by rw [e0]; exact Below.alloc (Below.refl _ _) (Nat.le_refl _) _
  have hA0 : At W0 w.heap.size 36 (b8 (zz 4)) := by rw [e0]; exact At.new _ _ _
  have h0 := h.below hB0
  have c1 : W0.cell? ⟨R, 1, none⟩ = some (.slice a bs.length c) := by rw [h0.cell.cell]; rfl
  have c2 : W0.cell? ⟨R, 2, none⟩ = some (.int .i64 (at' : Int)) := by rw [h0.cell.cell]; rfl
  have f2 : W0.frozen? ⟨R, 2, none⟩ = false := h0.cell.frozen 2
  have hle := h.le
  have hsm := h.small
  obtain ⟨m, hm⟩ : ∃ m, m = at' + 4 := ⟨_, rfl⟩
  have hcap : bs.length ≤ c := by obtain ⟨_, _, e1, hc, _⟩ := h.bin; cases e1; exact hc
  have HW := hide (fun q => show RSt ((W0.drewN q).setCell ⟨R, 2, none⟩ (.int .i64 (m : Int))) R a c bs (at' + 4) 0 0 ∧ Fr (Xr R) W0 ((W0.drewN q).setCell ⟨R, 2, none⟩ (.int .i64 (m : Int))) from ⟨by rw [hm]; exact RSt_move (RSt_drawn h0 q) (at' + 4) hn, (Fr.drewN (Fr.refl (Xr R) W0) q).setCell R 2 _ (fun _ => rfl)⟩)
  have HO := hide (own_lt h.bin (by intro e; rw [e] at hn; simp at hn))
  obtain ⟨k, hk⟩ : ∃ k, k = bs.length := ⟨_, rfl⟩
  have HN := hide hn
  rw [← hk] at hle hsm hn c1 hcap
  have w1 : IntKind.i64.wrap (↑k - ↑at') = (k : Int) - (at' : Int) := IntWalk.i64_in _ (by omega)
  have w2 : IntKind.i64.wrap (↑at' + 4) = (m : Int) := by rw [IntWalk.i64_in _ (by omega)]; omega
  have w4 : (at' : Int) + 4 = (m : Int) := by omega
  have w3 : decide ((k : Int) - (at' : Int) < 4) = false := decide_eq_false (by omega)
  have hsl := slR a k c at' m 4 hm (by omega) hcap
  have HK := hide hk
  have HM := hide hm
  have HB0 := hide hB0
  have HA0 := hide hA0
  have E0 := hide e0
  have HZ := hide hzl
  clear h hk hm h0 hB0 hA0 e0 hzl
  go_enter Try.func133, Try.ntmps133
  go_upto_region 1 with fail
  rw [show w.alloc (.cells #[.int .u8 0, .int .u8 0, .int .u8 0, .int .u8 0] 36) = W0 from E0.out.symm]
  go_quiet (fail)
  go_upto_region 5 with fail
  obtain ⟨W5, e5⟩ : ∃ X, X = (W0.drewN nq).setCell ⟨R, 2, none⟩ (.int .i64 (m : Int)) := ⟨_, rfl⟩
  rw [← e5]
  have HW5 := HW.out nq
  rw [← e5] at HW5
  have c1' : W5.cell? ⟨R, 1, none⟩ = some (.slice a k c) := by rw [HW5.1.cell.cell, HK.out]; rfl
  have c2' : W5.cell? ⟨R, 2, none⟩ = some (.int .i64 (m : Int)) := by rw [HW5.1.cell.cell, HM.out]; rfl
  have HR5 := hide (RSt_drew HW5.1)
  have HF5 := hide (Fr.drew HW5.2)
  have HA5 := hide (At.fr HA0.out HF5.out (fun h => by have : w.heap.size = R := h; omega))
  clear e5 HW5 c1 c2 f2 w1 w2 w3 w4
  go_still_tail 11, (by kernel_rfl)
  refine sC (by kernel_rfl) (by kernel_rfl) (key_any W5.drew (sa a c at') 4 (c - at') _ (bin_sub HR5.out.bin at' 4 HN.out) HZ.out) ?_
  intro w6 hb6
  simp only [Act.put, List.setIfInBounds_toArray, List.set_cons_succ, List.set_cons_zero]
  have HA6 := hide (HA5.out.below hb6 HA5.out.lt)
  have HR6 := hide (HR5.out.below hb6)
  have HF6 := hide (((Fr.of_below HB0.out).trans HF5.out).trans (Fr.of_below hb6))
  clear hb6
  refine stepStore (by rfl) _ _ _ (by rfl) _ (b8 ((bs.drop at').take 4)) (by kernel_rfl) (by kernel_rfl) HA6.out 4 (by kernel_rfl) (by rw [b8_len]; rfl) (by rw [b8_len]; exact HZ.out) (all_oneCell_toArray (one_b8 _)) ?_
  obtain ⟨WL, eWL⟩ : ∃ X, X = w6.setRow w.heap.size (b8 ((bs.drop at').take 4)).toArray := ⟨_, rfl⟩
  have HAL := hide (show At WL w.heap.size 36 (b8 ((bs.drop at').take 4)) by rw [eWL]; exact HA6.out.put _)
  have HFL := hide (show Fr (Xr R) w WL by rw [eWL]; exact Fr.setRow HF6.out _ _ (fun h => absurd h (Nat.lt_irrefl _)))
  have HRL := hide (show RSt WL R a c bs (at' + 4) 0 0 by rw [eWL]; exact RSt_row HR6.out _ _ (by omega) HO.out (Nat.le_refl _))
  have HLL := hide (show (b8 ((bs.drop at').take 4)).length = 4 by rw [b8_len]; exact HZ.out)
  rw [← eWL]
  clear eWL
  go_wp2_with fail
  exact bodyPost_ret (retRow HAL.out Try.results133 _ (by rfl) (.array 4 5) 4 Try.underlying36 rfl (by kernel_rfl) HLL.out) rfl ⟨rfl, HRL.out, HFL.out⟩
end WirO
end Go.Proofs.Ytplinpbmncccoaa
