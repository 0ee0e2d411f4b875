/-
  The program's reader: End, NewReader.
-/
import Derived.Test.YtplinpbmncccoaaWirR
namespace Go.Proofs.Ytplinpbmncccoaa
namespace WirT
open Go.RowKit
open BlkM WirM WirS WirA WirB WirE WirF WirG WirH WirI WirJ WirK WirL WirN WirO WirP WirQ WirR

def fault (e at' : Int) : Value := .agg #[.int .i64 e, .int .i64 at']
theorem end_none (w : World) (p : Option Addr) (h : NoR w p) (hp : ∀ S, p = some ⟨S, 0, none⟩ → S < w.heap.size) : Calls Try.prog 35 #[.pointer p] w fun e w' => e = .returned (fault 1 0) ∧ Below w.heap.size w w' := by
  have H := hide (fun W (hb : Below w.heap.size w W) => valid_none W p (by
    rcases h with rfl | ⟨S, rfl, hc⟩
    · exact .inl rfl
    · exact .inr ⟨S, rfl, (hb.cell (hp S rfl)).trans hc⟩))
  have hb := hide (show Below w.heap.size w (w.alloc (.cells #[.int .i64 0, .int .i64 0] 55)) from Below.alloc (Below.refl _ _) (Nat.le_refl _) _)
  clear h hp
  go_enter Try.func35, Try.ntmps35
  go_wp2_with ((go_at_call 117; refine (H.out _ hb.out).mono ?_; rintro e w1 ⟨rfl, rfl⟩))
  exact bodyPost_ret (v := fault 1 0) (by simp [results, Try.results35, go_sem, fault]) rfl ⟨rfl, Below.alloc (Below.refl _ _) (Nat.le_refl _) _⟩
def endE (bs : List Int) (at' : Nat) (fe : Int) : Int := if 0 < restN bs at' fe then 4 else fe
def endA (bs : List Int) (at' : Nat) (fe fa : Int) : Int := if 0 < restN bs at' fe then (at' : Int) else fa
set_option maxHeartbeats 1000000 in
theorem end_any (w : World) (R : Nat) (a : Option Addr) (c : Nat) (bs : List Int) (at' : Nat) (fe fa : Int) (h : RSt w R a c bs at' fe fa) : Calls Try.prog 35 #[.pointer (some ⟨R, 0, none⟩)] w fun e w' => e = .returned (fault (endE bs at' fe) (endA bs at' fe fa)) ∧ Below w.heap.size w w' := by
  have hlt := h.lt
  obtain ⟨W0, e0⟩ : ∃ X, X = w.alloc (.cells #[.int .i64 0, .int .i64 0] 55) := ⟨_, rfl⟩
  have hB0 : Below w.heap.size w W0 := by rw [e0]; exact Below.alloc (Below.refl _ _) (Nat.le_refl _) _
  have hA0 : At W0 w.heap.size 55 [.int .i64 0, .int .i64 0] := by rw [e0]; exact At.new _ _ [_, _]
  have h0 := h.below hB0
  have c0 : W0.cell? ⟨R, 0, none⟩ = some (.pointer (some ⟨R, 0, none⟩)) := by rw [h0.cell.cell]; rfl
  have V := hide (valid_any W0 R c0)
  have H := hide (rest_any W0 R a c bs at' fe fa h0)
  have E0 := hide e0
  have HB0 := hide hB0
  have d0 : W0.cell? ⟨w.heap.size, 0, none⟩ = some (.int .i64 0) := hA0.cell 0
  have d1 : W0.cell? ⟨w.heap.size, 1, none⟩ = some (.int .i64 0) := hA0.cell 1
  have g0 : W0.frozen? ⟨w.heap.size, 0, none⟩ = false := hA0.frozen 0
  have g1 : W0.frozen? ⟨w.heap.size, 1, none⟩ = false := hA0.frozen 1
  have c2 : W0.cell? ⟨R, 2, none⟩ = some (.int .i64 (at' : Int)) := by rw [h0.cell.cell]; rfl
  have c3 : W0.cell? ⟨R, 3, none⟩ = some (.int .i64 fe) := by rw [h0.cell.cell]; rfl
  have c4 : W0.cell? ⟨R, 4, none⟩ = some (.int .i64 fa) := by rw [h0.cell.cell]; rfl
  have HA0 := hide hA0
  generalize hr : restN bs at' fe = r at H
  have hEE : endE bs at' fe = if 0 < r then 4 else fe := by unfold endE; rw [hr]
  have hEA : endA bs at' fe fa = if 0 < r then (at' : Int) else fa := by unfold endA; rw [hr]
  rw [hEE, hEA]
  have hne : ∀ i j, (⟨w.heap.size, i, none⟩ : Addr) ≠ ⟨R, j, none⟩ := fun i j e => by
    have : w.heap.size = R := congrArg Addr.block e
    omega
  clear h h0 e0 hB0 hA0 c0 hr hEE hEA
  by_cases h1 : 0 < r
  · rw [if_pos h1, if_pos h1]
    go_enter Try.func35, Try.ntmps35
    go_upto_region 1 with fail
    rw [← E0.out]
    go_wp2_with (first | ((go_at_call 117; refine (V.out).mono ?_; rintro e w1 ⟨rfl, rfl⟩)) | ((go_at_call 33; refine (H.out).mono ?_; rintro e w1 ⟨rfl, q, rfl⟩)))
    have hA := ((At.fr HA0.out (X := fun _ => False) (Fr.drewN (Fr.refl _ W0) q) (fun h => h)).setCell 0 (.int .i64 4)).setCell 1 (.int .i64 (at' : Int))
    exact bodyPost_ret (retRow hA Try.results35 _ (by rfl) _ 2 Try.underlying55 rfl (by kernel_rfl) rfl) rfl ⟨rfl, ((below_drewN HB0.out q).setCell (by simp) _).setCell (by simp) _⟩
  · rw [if_neg h1, if_neg h1]
    go_enter Try.func35, Try.ntmps35
    go_upto_region 1 with fail
    rw [← E0.out]
    go_wp2_with (first | ((go_at_call 117; refine (V.out).mono ?_; rintro e w1 ⟨rfl, rfl⟩)) | ((go_at_call 33; refine (H.out).mono ?_; rintro e w1 ⟨rfl, q, rfl⟩)))
    have hA := ((At.fr HA0.out (X := fun _ => False) (Fr.drewN (Fr.refl _ W0) q) (fun h => h)).setCell 0 (.int .i64 fe)).setCell 1 (.int .i64 fa)
    exact bodyPost_ret (retRow hA Try.results35 _ (by rfl) _ 2 Try.underlying55 rfl (by kernel_rfl) rfl) rfl ⟨rfl, ((below_drewN HB0.out q).setCell (by simp) _).setCell (by simp) _⟩
set_option maxHeartbeats 1000000 in
theorem newReader_any (w : World) (a : Option Addr) (n c : Nat) (bs : List Int) (h : BIn w (.slice a n c) bs) (hr : ∀ x ∈ bs, 0 ≤ x ∧ x < 256) (hn : n ≤ 1099511627776) :
    Calls Try.prog 30 #[.slice a n c] w fun e w' => ∃ R a2 c2, e = .returned (.pointer (some ⟨R, 0, none⟩)) ∧ w.heap.size ≤ R ∧ RSt w' R a2 c2 bs 0 0 0 ∧ NewB w (.slice a2 bs.length c2) ∧ Below w.heap.size w w' := by
  have hnl : n = bs.length := by
    obtain ⟨_, _, e1, _⟩ := h
    cases e1
    rfl
  have C := hide (clone_any w a n c bs h hn)
  have HN := hide hnl
  clear h hnl
  go_enter Try.func30, Try.ntmps30
  go_wp2_with ((go_at_call 106; refine (C.out).mono ?_; rintro e w1 ⟨va, vn, vc, rfl, ho, hb, hB⟩; have HO := hide ho; have HBB := hide hb; clear ho hb))
  go_ret
  obtain ⟨a3, c3, e3, _⟩ := id HO.out.bin
  obtain ⟨rfl, rfl, rfl⟩ : va = a3 ∧ vn = bs.length ∧ vc = c3 := by cases e3; exact ⟨rfl, rfl, rfl⟩
  have hal : Below w1.heap.size w1 (w1.alloc (.cells (rcells w1.heap.size (.slice va bs.length vc) 0 0 0).toArray 62)) := Below.alloc (Below.refl _ _) (Nat.le_refl _) _
  refine ⟨w1.heap.size, va, vc, rfl, hB.size, ⟨At.new w1 _ _, HO.out.bin.below hal, ?_, ?_, Nat.zero_le _, by rw [← HN.out]; exact hn, hr⟩, HBB.out, hB.trans (hal.mono hB.size)⟩
  · intro e
    have := HO.out.lt _ e
    omega
  · intro k hk
    have := HO.out.lt k hk
    simp
    omega
end WirT
end Go.Proofs.Ytplinpbmncccoaa
