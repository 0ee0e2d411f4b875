/-
  The program's reader: the calls Hash, Key; End, NewReader.
-/
import Derived.Test.YtplinpbmncccoaaWirP
namespace Go.Proofs.Ytplinpbmncccoaa
namespace WirQ
open Go.RowKit
open BlkM WirM WirS WirA WirB WirE WirF WirG WirH WirI WirJ WirK WirL WirN WirO WirP

set_option maxRecDepth 8000 in
set_option maxHeartbeats 1000000 in
theorem read_hash (w : World) (R : Nat) (a : Option Addr) (c : Nat) (bs : List Int) (at' b : Nat) (h : RSt w R a c bs at' 0 0) (hb : w.cell? ⟨b, 0, none⟩ = some (.pointer (some ⟨R, 0, none⟩))) :
    Calls Try.prog 127 #[.pointer (some ⟨R, 0, none⟩), .func (.func 128) #[] #[.pointer (some ⟨b, 0, none⟩)]] w (ReadPost w R a c bs at' (aggB (zz 32)) (outOf aggB (rowO 32 bs at'))) := by
  have hlt := h.lt
  have hblt : b < w.heap.size := World.block_lt_of_cell? w ⟨b, 0, none⟩ hb
  obtain ⟨W0, e0⟩ : ∃ X, X = WZ w (.pointer (some ⟨R, 0, none⟩)) 34 32 := ⟨_, rfl⟩
  have hB0 : Below w.heap.size w W0 := by rw [e0]; exact WZ_below _ _ _ _
  have hs0 : W0.heap.size = w.heap.size + 2 := by rw [e0]; exact WZ_size _ _ _ _
  have hA1 : At W0 w.heap.size 48 [.pointer (some ⟨R, 0, none⟩)] := by rw [e0]; exact WZ_at1 _ _ _ _
  have hA2 : At W0 (w.heap.size + 1) 34 (b8 (zz 32)) := by rw [e0]; exact WZ_at2 _ _ _ _
  have h0 := h.below hB0
  have H := hide (reads_any W0 R a c bs at' 0 0 h0)
  have c2 : W0.cell? ⟨R, 2, none⟩ = some (.int .i64 (at' : Int)) := by rw [h0.cell.cell]; rfl
  have hc : W0.cell? ⟨w.heap.size, 0, none⟩ = some (.pointer (some ⟨R, 0, none⟩)) := hA1.cell 0
  obtain ⟨W4, e4⟩ : ∃ X, X = W0.alloc (.cells #[.int .i64 (at' : Int)] 3) := ⟨_, rfl⟩
  have hB4' : Below W0.heap.size W0 W4 := by rw [e4]; exact Below.alloc (Below.refl _ _) (Nat.le_refl _) _
  have hB4 : Below w.heap.size w W4 := hB0.trans (hB4'.mono hB0.size)
  have hA3 : At W4 W0.heap.size 3 [.int .i64 (at' : Int)] := by rw [e4]; exact At.new W0 _ [_]
  have hmf : ∀ (fn : Fn) (first cap : Array Value) (w : World), (Instr.makeFunc fn first cap).run Try.prog w = .ok (.func fn first cap) w := fun _ _ _ _ => rfl
  have C := hide (hashC W4 R a c bs at' b (h.below hB4) ((hB4.cell (p := ⟨b, 0, none⟩) hblt).trans hb))
  have HA1 := hide (hA1.below hB4' hA1.lt)
  have HA2 := hide (hA2.below hB4' hA2.lt)
  have HA3 := hide hA3
  have HB4 := hide hB4
  have E4 := hide e4
  have E0 := hide e0
  have HS := hide hs0
  by_cases h1 : bs.length < at' + 32
  · rw [show rowO 32 bs at' = .inl 6 by unfold rowO; rw [if_pos h1]] at C ⊢
    clear h h0 hb hB0 hs0 hA1 hA2 hA3 e0 e4 hB4' hB4 h1
    go_enter_defers Try.func127, Try.ntmps127
    go_upto_region 1 with fail
    rw [show (w.alloc (.cells #[.pointer (some ⟨R, 0, none⟩)] 48)).alloc (.cells #[.int .u8 0, .int .u8 0, .int .u8 0, .int .u8 0, .int .u8 0, .int .u8 0, .int .u8 0, .int .u8 0, .int .u8 0, .int .u8 0, .int .u8 0, .int .u8 0, .int .u8 0, .int .u8 0, .int .u8 0, .int .u8 0, .int .u8 0, .int .u8 0, .int .u8 0, .int .u8 0, .int .u8 0, .int .u8 0, .int .u8 0, .int .u8 0, .int .u8 0, .int .u8 0, .int .u8 0, .int .u8 0, .int .u8 0, .int .u8 0, .int .u8 0, .int .u8 0] 34) = W0 from E0.out.symm]
    go_upto_region 5 with ((go_at_call 116; refine (H.out).mono ?_; rintro e w1 ⟨rfl, rfl⟩))
    rw [← E4.out]
    go_wp2_with ((go_at_call 128; refine (C.out).mono ?_; rintro e w1 ⟨rfl, ⟨p, hr⟩, hf⟩))
    have k1 : w1.cell? ⟨w.heap.size, 0, none⟩ = some (.pointer (some ⟨R, 0, none⟩)) := (hf.cell (p := ⟨w.heap.size, 0, none⟩) HA1.out.lt (fun h => by have : w.heap.size = R := h; omega)).trans (HA1.out.cell 0)
    have k2 : w1.cell? ⟨W0.heap.size, 0, none⟩ = some (.int .i64 (at' : Int)) := (hf.cell (p := ⟨W0.heap.size, 0, none⟩) HA3.out.lt (fun h => by have h' : W0.heap.size = R := h; have := HS.out; omega)).trans (HA3.out.cell 0)
    have k3 : At w1 (w.heap.size + 1) 34 (b8 (zz 32)) := At.fr HA2.out hf (fun h => by have h' : w.heap.size + 1 = R := h; omega)
    refine leaves_cons (f := 191) (args := #[.pointer (some ⟨w.heap.size, 0, none⟩), .pointer (some ⟨W0.heap.size, 0, none⟩)]) (by simp) (by simp [go_sem]) ?_
    refine (catch_hash w.heap.size W0.heap.size w1 R a c bs p 0 0 6 at' hr k1 k2).mono ?_
    rintro e u' w'' ⟨rfl, rfl, hR, hF⟩
    have k4 : At w'' (w.heap.size + 1) 34 (b8 (zz 32)) := At.fr k3 hF (fun h => by have h' : w.heap.size + 1 = R := h; omega)
    exact ⟨_, retRow k4 Try.results127 _ (by rfl) (.array 32 5) 32 Try.underlying34 rfl (by kernel_rfl) (zz_len _), rfl, ⟨p, hR⟩, ((Fr.of_below HB4.out).trans hf).trans hF⟩
  · have HO := hide (own_lt h.bin (by intro e; rw [e] at h1; simp at h1))
    have HZ := hide (show (b8 ((bs.drop at').take 32)).length = 32 by rw [b8_len]; simp; omega)
    rw [show rowO 32 bs at' = .inr ((bs.drop at').take 32, at' + 32) by unfold rowO; rw [if_neg h1]] at C ⊢
    generalize (bs.drop at').take 32 = l at C HZ ⊢
    clear h h0 hb hB0 hs0 hA1 hA2 hA3 e0 e4 hB4' hB4 h1
    go_enter_defers Try.func127, Try.ntmps127
    go_upto_region 1 with fail
    rw [show (w.alloc (.cells #[.pointer (some ⟨R, 0, none⟩)] 48)).alloc (.cells #[.int .u8 0, .int .u8 0, .int .u8 0, .int .u8 0, .int .u8 0, .int .u8 0, .int .u8 0, .int .u8 0, .int .u8 0, .int .u8 0, .int .u8 0, .int .u8 0, .int .u8 0, .int .u8 0, .int .u8 0, .int .u8 0, .int .u8 0, .int .u8 0, .int .u8 0, .int .u8 0, .int .u8 0, .int .u8 0, .int .u8 0, .int .u8 0, .int .u8 0, .int .u8 0, .int .u8 0, .int .u8 0, .int .u8 0, .int .u8 0, .int .u8 0, .int .u8 0] 34) = W0 from E0.out.symm]
    go_upto_region 5 with ((go_at_call 116; refine (H.out).mono ?_; rintro e w1 ⟨rfl, rfl⟩))
    rw [← E4.out]
    refine wp_region_lit ?_
    refine sV (.func (.func 128) #[] #[.pointer (some ⟨b, 0, none⟩)]) (W4) (by kernel_rfl) (by kernel_rfl) ?_
    simp only [Act.put, List.setIfInBounds_toArray, List.set_cons_succ, List.set_cons_zero]
    refine sC (v := aggB l) (R := fun w' => RSt w' R a c bs (at' + 32) 0 0 ∧ Fr (Xr R) W4 w') (by kernel_rfl) (by kernel_rfl) (C.out.mono fun e w' ⟨v, h1, h2, h3, h4⟩ => ⟨by rw [h1, h2], h3, h4⟩) ?_
    rintro w6 ⟨hr, hf⟩
    simp only [Act.put, List.setIfInBounds_toArray, List.set_cons_succ, List.set_cons_zero]
    have HA6 := hide (At.fr HA2.out hf (fun h => by have h' : w.heap.size + 1 = R := h; omega))
    have HR6 := hide hr
    have HF6 := hide ((Fr.of_below HB4.out).trans hf)
    clear hr hf
    refine stepStore (by rfl) _ _ _ (by rfl) _ (b8 l) (by kernel_rfl) (by kernel_rfl) HA6.out 32 (by kernel_rfl) (zz_len _) HZ.out (all_oneCell_toArray (one_b8 _)) ?_
    obtain ⟨WL, eWL⟩ : ∃ X, X = w6.setRow (w.heap.size + 1) (b8 l).toArray := ⟨_, rfl⟩
    have HAL := hide (show At WL (w.heap.size + 1) 34 (b8 l) by rw [eWL]; exact HA6.out.put _)
    have HFL := hide (show Fr (Xr R) w WL by rw [eWL]; exact Fr.setRow HF6.out _ _ (fun h => by omega))
    have HRL := hide (show RSt WL R a c bs (at' + 32) 0 0 by rw [eWL]; exact RSt_row HR6.out _ _ (by omega) HO.out (by omega))
    rw [← eWL]
    clear eWL
    go_wp2_with fail
    refine leaves_cons (f := 191) (args := #[.pointer (some ⟨w.heap.size, 0, none⟩), .pointer (some ⟨W0.heap.size, 0, none⟩)]) (by simp) (by simp [go_sem]) ?_
    refine (idle_hash _ _ WL).mono ?_
    rintro e u' w'' ⟨rfl, rfl, rfl⟩
    exact ⟨_, retRow HAL.out Try.results127 _ (by rfl) (.array 32 5) 32 Try.underlying34 rfl (by kernel_rfl) HZ.out, _, rfl, rfl, HRL.out, HFL.out⟩
set_option maxRecDepth 8000 in
set_option maxHeartbeats 1000000 in
theorem read_key (w : World) (R : Nat) (a : Option Addr) (c : Nat) (bs : List Int) (at' b : Nat) (h : RSt w R a c bs at' 0 0) (hb : w.cell? ⟨b, 0, none⟩ = some (.pointer (some ⟨R, 0, none⟩))) :
    Calls Try.prog 131 #[.pointer (some ⟨R, 0, none⟩), .func (.func 132) #[] #[.pointer (some ⟨b, 0, none⟩)]] w (ReadPost w R a c bs at' (aggB (zz 4)) (outOf aggB (rowO 4 bs at'))) := by
  have hlt := h.lt
  have hblt : b < w.heap.size := World.block_lt_of_cell? w ⟨b, 0, none⟩ hb
  obtain ⟨W0, e0⟩ : ∃ X, X = WZ w (.pointer (some ⟨R, 0, none⟩)) 36 4 := ⟨_, rfl⟩
  have hB0 : Below w.heap.size w W0 := by rw [e0]; exact WZ_below _ _ _ _
  have hs0 : W0.heap.size = w.heap.size + 2 := by rw [e0]; exact WZ_size _ _ _ _
  have hA1 : At W0 w.heap.size 48 [.pointer (some ⟨R, 0, none⟩)] := by rw [e0]; exact WZ_at1 _ _ _ _
  have hA2 : At W0 (w.heap.size + 1) 36 (b8 (zz 4)) := by rw [e0]; exact WZ_at2 _ _ _ _
  have h0 := h.below hB0
  have H := hide (reads_any W0 R a c bs at' 0 0 h0)
  have c2 : W0.cell? ⟨R, 2, none⟩ = some (.int .i64 (at' : Int)) := by rw [h0.cell.cell]; rfl
  have hc : W0.cell? ⟨w.heap.size, 0, none⟩ = some (.pointer (some ⟨R, 0, none⟩)) := hA1.cell 0
  obtain ⟨W4, e4⟩ : ∃ X, X = W0.alloc (.cells #[.int .i64 (at' : Int)] 3) := ⟨_, rfl⟩
  have hB4' : Below W0.heap.size W0 W4 := by rw [e4]; exact Below.alloc (Below.refl _ _) (Nat.le_refl _) _
  have hB4 : Below w.heap.size w W4 := hB0.trans (hB4'.mono hB0.size)
  have hA3 : At W4 W0.heap.size 3 [.int .i64 (at' : Int)] := by rw [e4]; exact At.new W0 _ [_]
  have hmf : ∀ (fn : Fn) (first cap : Array Value) (w : World), (Instr.makeFunc fn first cap).run Try.prog w = .ok (.func fn first cap) w := fun _ _ _ _ => rfl
  have C := hide (keyC W4 R a c bs at' b (h.below hB4) ((hB4.cell (p := ⟨b, 0, none⟩) hblt).trans hb))
  have HA1 := hide (hA1.below hB4' hA1.lt)
  have HA2 := hide (hA2.below hB4' hA2.lt)
  have HA3 := hide hA3
  have HB4 := hide hB4
  have E4 := hide e4
  have E0 := hide e0
  have HS := hide hs0
  by_cases h1 : bs.length < at' + 4
  · rw [show rowO 4 bs at' = .inl 6 by unfold rowO; rw [if_pos h1]] at C ⊢
    clear h h0 hb hB0 hs0 hA1 hA2 hA3 e0 e4 hB4' hB4 h1
    go_enter_defers Try.func131, Try.ntmps131
    go_upto_region 1 with fail
    rw [show (w.alloc (.cells #[.pointer (some ⟨R, 0, none⟩)] 48)).alloc (.cells #[.int .u8 0, .int .u8 0, .int .u8 0, .int .u8 0] 36) = W0 from E0.out.symm]
    go_upto_region 5 with ((go_at_call 116; refine (H.out).mono ?_; rintro e w1 ⟨rfl, rfl⟩))
    rw [← E4.out]
    go_wp2_with ((go_at_call 132; refine (C.out).mono ?_; rintro e w1 ⟨rfl, ⟨p, hr⟩, hf⟩))
    have k1 : w1.cell? ⟨w.heap.size, 0, none⟩ = some (.pointer (some ⟨R, 0, none⟩)) := (hf.cell (p := ⟨w.heap.size, 0, none⟩) HA1.out.lt (fun h => by have : w.heap.size = R := h; omega)).trans (HA1.out.cell 0)
    have k2 : w1.cell? ⟨W0.heap.size, 0, none⟩ = some (.int .i64 (at' : Int)) := (hf.cell (p := ⟨W0.heap.size, 0, none⟩) HA3.out.lt (fun h => by have h' : W0.heap.size = R := h; have := HS.out; omega)).trans (HA3.out.cell 0)
    have k3 : At w1 (w.heap.size + 1) 36 (b8 (zz 4)) := At.fr HA2.out hf (fun h => by have h' : w.heap.size + 1 = R := h; omega)
    refine leaves_cons (f := 192) (args := #[.pointer (some ⟨w.heap.size, 0, none⟩), .pointer (some ⟨W0.heap.size, 0, none⟩)]) (by simp) (by simp [go_sem]) ?_
    refine (catch_key w.heap.size W0.heap.size w1 R a c bs p 0 0 6 at' hr k1 k2).mono ?_
    rintro e u' w'' ⟨rfl, rfl, hR, hF⟩
    have k4 : At w'' (w.heap.size + 1) 36 (b8 (zz 4)) := At.fr k3 hF (fun h => by have h' : w.heap.size + 1 = R := h; omega)
    exact ⟨_, retRow k4 Try.results131 _ (by rfl) (.array 4 5) 4 Try.underlying36 rfl (by kernel_rfl) (zz_len _), rfl, ⟨p, hR⟩, ((Fr.of_below HB4.out).trans hf).trans hF⟩
  · have HO := hide (own_lt h.bin (by intro e; rw [e] at h1; simp at h1))
    have HZ := hide (show (b8 ((bs.drop at').take 4)).length = 4 by rw [b8_len]; simp; omega)
    rw [show rowO 4 bs at' = .inr ((bs.drop at').take 4, at' + 4) by unfold rowO; rw [if_neg h1]] at C ⊢
    generalize (bs.drop at').take 4 = l at C HZ ⊢
    clear h h0 hb hB0 hs0 hA1 hA2 hA3 e0 e4 hB4' hB4 h1
    go_enter_defers Try.func131, Try.ntmps131
    go_upto_region 1 with fail
    rw [show (w.alloc (.cells #[.pointer (some ⟨R, 0, none⟩)] 48)).alloc (.cells #[.int .u8 0, .int .u8 0, .int .u8 0, .int .u8 0] 36) = W0 from E0.out.symm]
    go_upto_region 5 with ((go_at_call 116; refine (H.out).mono ?_; rintro e w1 ⟨rfl, rfl⟩))
    rw [← E4.out]
    refine wp_region_lit ?_
    refine sV (.func (.func 132) #[] #[.pointer (some ⟨b, 0, none⟩)]) (W4) (by kernel_rfl) (by kernel_rfl) ?_
    simp only [Act.put, List.setIfInBounds_toArray, List.set_cons_succ, List.set_cons_zero]
    refine sC (v := aggB l) (R := fun w' => RSt w' R a c bs (at' + 4) 0 0 ∧ Fr (Xr R) W4 w') (by kernel_rfl) (by kernel_rfl) (C.out.mono fun e w' ⟨v, h1, h2, h3, h4⟩ => ⟨by rw [h1, h2], h3, h4⟩) ?_
    rintro w6 ⟨hr, hf⟩
    simp only [Act.put, List.setIfInBounds_toArray, List.set_cons_succ, List.set_cons_zero]
    have HA6 := hide (At.fr HA2.out hf (fun h => by have h' : w.heap.size + 1 = R := h; omega))
    have HR6 := hide hr
    have HF6 := hide ((Fr.of_below HB4.out).trans hf)
    clear hr hf
    refine stepStore (by rfl) _ _ _ (by rfl) _ (b8 l) (by kernel_rfl) (by kernel_rfl) HA6.out 4 (by kernel_rfl) (zz_len _) HZ.out (all_oneCell_toArray (one_b8 _)) ?_
    obtain ⟨WL, eWL⟩ : ∃ X, X = w6.setRow (w.heap.size + 1) (b8 l).toArray := ⟨_, rfl⟩
    have HAL := hide (show At WL (w.heap.size + 1) 36 (b8 l) by rw [eWL]; exact HA6.out.put _)
    have HFL := hide (show Fr (Xr R) w WL by rw [eWL]; exact Fr.setRow HF6.out _ _ (fun h => by omega))
    have HRL := hide (show RSt WL R a c bs (at' + 4) 0 0 by rw [eWL]; exact RSt_row HR6.out _ _ (by omega) HO.out (by omega))
    rw [← eWL]
    clear eWL
    go_wp2_with fail
    refine leaves_cons (f := 192) (args := #[.pointer (some ⟨w.heap.size, 0, none⟩), .pointer (some ⟨W0.heap.size, 0, none⟩)]) (by simp) (by simp [go_sem]) ?_
    refine (idle_key _ _ WL).mono ?_
    rintro e u' w'' ⟨rfl, rfl, rfl⟩
    exact ⟨_, retRow HAL.out Try.results131 _ (by rfl) (.array 4 5) 4 Try.underlying36 rfl (by kernel_rfl) HZ.out, _, rfl, rfl, HRL.out, HFL.out⟩
end WirQ
end Go.Proofs.Ytplinpbmncccoaa
