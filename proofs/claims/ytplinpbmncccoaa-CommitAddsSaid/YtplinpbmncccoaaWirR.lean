/-
  The program's reader: the calls Hash, Key; End, NewReader.
-/
import Derived.Test.YtplinpbmncccoaaWirQ
namespace Go.Proofs.Ytplinpbmncccoaa
namespace WirR
open Go.RowKit
open BlkM WirM WirS WirA WirB WirE WirF WirG WirH WirI WirJ WirK WirL WirN WirO WirP WirQ

theorem below_row {w w1 : World} {V : Nat} {c : Array Value} (h : Below w.heap.size w w1) (hV : w.heap.size ≤ V) : Below w.heap.size w (w1.setRow V c) := Below.setRowOwn h hV _
theorem hash_call (w : World) (p : Option Addr) (l : List Int) (hl : l.length = 32) (Q : World → Prop)
    (H0 : Calls Try.prog 127 #[.pointer p, .func (.func 128) #[] #[.pointer (some ⟨w.heap.size, 0, none⟩)]] (WZ w (.pointer p) 34 32) fun e w' => e = .returned (aggB l) ∧ Q w')
    (hQ : ∀ w1, Q w1 → At w1 (w.heap.size + 1) 34 (b8 (zz 32))) :
    Calls Try.prog 40 #[.pointer p] w fun e w' => e = .returned (aggB l) ∧ ∃ w1, Q w1 ∧ w' = w1.setRow (w.heap.size + 1) (b8 l).toArray := by
  obtain ⟨W0, e0⟩ : ∃ X, X = WZ w (.pointer p) 34 32 := ⟨_, rfl⟩
  rw [← e0] at H0
  have hc : W0.cell? ⟨w.heap.size, 0, none⟩ = some (.pointer p) := by rw [e0]; exact (WZ_at1 _ _ _ _).cell 0
  have H := hide H0
  have HQ := hide hQ
  have E0 := hide e0
  have HL := hide (show (b8 l).length = 32 by rw [b8_len]; exact hl)
  clear H0 hQ e0 hl
  have hmf : ∀ (fn : Fn) (first cap : Array Value) (w : World), (Instr.makeFunc fn first cap).run Try.prog w = .ok (.func fn first cap) w := fun _ _ _ _ => rfl
  go_enter Try.func40, Try.ntmps40
  go_upto_region 1 with fail
  rw [show (w.alloc (.cells #[.pointer p] 48)).alloc (.cells #[.int .u8 0, .int .u8 0, .int .u8 0, .int .u8 0, .int .u8 0, .int .u8 0, .int .u8 0, .int .u8 0, .int .u8 0, .int .u8 0, .int .u8 0, .int .u8 0, .int .u8 0, .int .u8 0, .int .u8 0, .int .u8 0, .int .u8 0, .int .u8 0, .int .u8 0, .int .u8 0, .int .u8 0, .int .u8 0, .int .u8 0, .int .u8 0, .int .u8 0, .int .u8 0, .int .u8 0, .int .u8 0, .int .u8 0, .int .u8 0, .int .u8 0, .int .u8 0] 34) = W0 from E0.out.symm]
  refine wp_region_lit ?_
  refine sP (by kernel_rfl) _ _ (by rfl) ⟨w.heap.size, 0, none⟩ (by kernel_rfl) (.pointer p) hc (by kernel_rfl) ?_
  simp only [Act.put, List.setIfInBounds_toArray, List.set_cons_succ, List.set_cons_zero]
  refine sV (.func (.func 128) #[] #[.pointer (some ⟨w.heap.size, 0, none⟩)]) (W0) (by kernel_rfl) (by kernel_rfl) ?_
  simp only [Act.put, List.setIfInBounds_toArray, List.set_cons_succ, List.set_cons_zero]
  refine sC (v := aggB l) (R := Q) (by kernel_rfl) (by kernel_rfl) H.out ?_
  intro w6 hq
  simp only [Act.put, List.setIfInBounds_toArray, List.set_cons_succ, List.set_cons_zero]
  have HA6 := hide (HQ.out w6 hq)
  have HQ6 := hide hq
  clear hq
  refine stepStore (by rfl) _ _ _ (by rfl) _ (b8 l) (by kernel_rfl) (by kernel_rfl) HA6.out 32 (by kernel_rfl) (zz_len _) HL.out (all_oneCell_toArray (one_b8 _)) ?_
  obtain ⟨WL, eWL⟩ : ∃ X, X = w6.setRow (w.heap.size + 1) (b8 l).toArray := ⟨_, rfl⟩
  have HAL := hide (show At WL (w.heap.size + 1) 34 (b8 l) by rw [eWL]; exact HA6.out.put _)
  rw [← eWL]
  have EWL := hide eWL
  clear eWL
  go_wp2_with fail
  exact bodyPost_ret (retRow HAL.out Try.results40 _ (by rfl) (.array 32 5) 32 Try.underlying34 rfl (by kernel_rfl) HL.out) rfl ⟨rfl, _, HQ6.out, EWL.out⟩
theorem hash_none (w : World) (p : Option Addr) (h : NoR w p) (hp : ∀ S, p = some ⟨S, 0, none⟩ → S < w.heap.size) : Calls Try.prog 40 #[.pointer p] w fun e w' => e = .returned (aggB (zz 32)) ∧ Below w.heap.size w w' := by
  have hb := WZ_below w (.pointer p) 34 32
  refine (hash_call w p (zz 32) (by simp [zz]) _ (read_none_hash _ p _ (by
    rcases h with rfl | ⟨S, rfl, hc⟩
    · exact .inl rfl
    · exact .inr ⟨S, rfl, (hb.cell (hp S rfl)).trans hc⟩) (fun S hS => Nat.lt_of_lt_of_le (hp S hS) hb.size)) (fun w1 h1 => (WZ_at2 _ _ _ _).below h1 (WZ_at2 _ _ _ _).lt)).mono ?_
  rintro e w' ⟨rfl, w1, h1, rfl⟩
  exact ⟨rfl, below_row (hb.trans (h1.mono hb.size)) (by omega)⟩
theorem hash_fault (w : World) (R : Nat) (a : Option Addr) (c : Nat) (bs : List Int) (at' : Nat) (fe fa : Int) (h : RSt w R a c bs at' fe fa) (he : fe ≠ 0) : Calls Try.prog 40 #[.pointer (some ⟨R, 0, none⟩)] w fun e w' => e = .returned (aggB (zz 32)) ∧ Below w.heap.size w w' := by
  have hb := WZ_below w (.pointer (some ⟨R, 0, none⟩)) 34 32
  refine (hash_call w _ (zz 32) (by simp [zz]) _ (read_fault_hash _ R a c bs at' fe fa _ (h.below hb) he) (fun w1 h1 => (WZ_at2 _ _ _ _).below h1 (WZ_at2 _ _ _ _).lt)).mono ?_
  rintro e w' ⟨rfl, w1, h1, rfl⟩
  exact ⟨rfl, below_row (hb.trans (h1.mono hb.size)) (by omega)⟩
theorem hash_read (w : World) (R : Nat) (a : Option Addr) (c : Nat) (bs : List Int) (at' : Nat) (h : RSt w R a c bs at' 0 0) : Calls Try.prog 40 #[.pointer (some ⟨R, 0, none⟩)] w (ReadPost w R a c bs at' (aggB (zz 32)) (outOf aggB (rowO 32 bs at'))) := by
  have hlt := h.lt
  have hb := WZ_below w (.pointer (some ⟨R, 0, none⟩)) 34 32
  have hsz := WZ_size w (.pointer (some ⟨R, 0, none⟩)) 34 32
  have C := read_hash (WZ w (.pointer (some ⟨R, 0, none⟩)) 34 32) R a c bs at' w.heap.size (h.below hb) ((WZ_at1 _ _ _ _).cell 0)
  have k2 := WZ_at2 w (.pointer (some ⟨R, 0, none⟩)) 34 32
  have hoff : ∀ k, (Value.slice a bs.length c).ownBlock = some k → k ≠ w.heap.size + 1 := fun k hk => by
    have := h.olt k hk
    omega
  have hrow : ∀ {w1 : World} {q : Nat} {fe fa : Int} {cs : Array Value}, RSt w1 R a c bs q fe fa → RSt (w1.setRow (w.heap.size + 1) cs) R a c bs q fe fa := fun {w1 q fe fa cs} hr =>
    hr.fr (X := fun k => k = w.heap.size + 1) (Fr.setRow (Fr.refl _ w1) _ cs (fun _ => rfl)) (by omega) (fun k hk hx => hoff k hk hx)
  by_cases h1 : bs.length < at' + 32
  · rw [show rowO 32 bs at' = .inl 6 by unfold rowO; rw [if_pos h1]] at C ⊢
    refine (hash_call w _ (zz 32) (by simp [zz]) _ C (fun w1 h1 => At.fr k2 h1.2 (fun h => by have h' : w.heap.size + 1 = R := h; omega))).mono ?_
    rintro e w' ⟨rfl, w1, ⟨⟨p, hr⟩, hf⟩, rfl⟩
    exact ⟨rfl, ⟨p, hrow hr⟩, Fr.setRow ((Fr.of_below hb).trans hf) _ _ (fun h => by omega)⟩
  · rw [show rowO 32 bs at' = .inr ((bs.drop at').take 32, at' + 32) by unfold rowO; rw [if_neg h1]] at C ⊢
    refine (hash_call w _ ((bs.drop at').take 32) (by simp; omega) _ (C.mono fun e w' ⟨v, h1, h2, h3, h4⟩ => (⟨by rw [h1, h2], h3, h4⟩ : _ ∧ RSt w' R a c bs (at' + 32) 0 0 ∧ Fr (Xr R) (WZ w (.pointer (some ⟨R, 0, none⟩)) 34 32) w')) (fun w1 h1 => At.fr k2 h1.2 (fun h => by have h' : w.heap.size + 1 = R := h; omega))).mono ?_
    rintro e w' ⟨rfl, w1, ⟨hr, hf⟩, rfl⟩
    exact ⟨_, rfl, rfl, hrow hr, Fr.setRow ((Fr.of_below hb).trans hf) _ _ (fun h => by omega)⟩
theorem key_call (w : World) (p : Option Addr) (l : List Int) (hl : l.length = 4) (Q : World → Prop)
    (H0 : Calls Try.prog 131 #[.pointer p, .func (.func 132) #[] #[.pointer (some ⟨w.heap.size, 0, none⟩)]] (WZ w (.pointer p) 36 4) fun e w' => e = .returned (aggB l) ∧ Q w')
    (hQ : ∀ w1, Q w1 → At w1 (w.heap.size + 1) 36 (b8 (zz 4))) :
    Calls Try.prog 41 #[.pointer p] w fun e w' => e = .returned (aggB l) ∧ ∃ w1, Q w1 ∧ w' = w1.setRow (w.heap.size + 1) (b8 l).toArray := by
  obtain ⟨W0, e0⟩ : ∃ X, X = WZ w (.pointer p) 36 4 := ⟨_, rfl⟩
  rw [← e0] at H0
  have hc : W0.cell? ⟨w.heap.size, 0, none⟩ = some (.pointer p) := by rw [e0]; exact (WZ_at1 _ _ _ _).cell 0
  have H := hide H0
  have HQ := hide hQ
  have E0 := hide e0
  have HL := hide (show (b8 l).length = 4 by rw [b8_len]; exact hl)
  clear H0 hQ e0 hl
  have hmf : ∀ (fn : Fn) (first cap : Array Value) (w : World), (Instr.makeFunc fn first cap).run Try.prog w = .ok (.func fn first cap) w := fun _ _ _ _ => rfl
  go_enter Try.func41, Try.ntmps41
  go_upto_region 1 with fail
  rw [show (w.alloc (.cells #[.pointer p] 48)).alloc (.cells #[.int .u8 0, .int .u8 0, .int .u8 0, .int .u8 0] 36) = W0 from E0.out.symm]
  refine wp_region_lit ?_
  refine sP (by kernel_rfl) _ _ (by rfl) ⟨w.heap.size, 0, none⟩ (by kernel_rfl) (.pointer p) hc (by kernel_rfl) ?_
  simp only [Act.put, List.setIfInBounds_toArray, List.set_cons_succ, List.set_cons_zero]
  refine sV (.func (.func 132) #[] #[.pointer (some ⟨w.heap.size, 0, none⟩)]) (W0) (by kernel_rfl) (by kernel_rfl) ?_
  simp only [Act.put, List.setIfInBounds_toArray, List.set_cons_succ, List.set_cons_zero]
  refine sC (v := aggB l) (R := Q) (by kernel_rfl) (by kernel_rfl) H.out ?_
  intro w6 hq
  simp only [Act.put, List.setIfInBounds_toArray, List.set_cons_succ, List.set_cons_zero]
  have HA6 := hide (HQ.out w6 hq)
  have HQ6 := hide hq
  clear hq
  refine stepStore (by rfl) _ _ _ (by rfl) _ (b8 l) (by kernel_rfl) (by kernel_rfl) HA6.out 4 (by kernel_rfl) (zz_len _) HL.out (all_oneCell_toArray (one_b8 _)) ?_
  obtain ⟨WL, eWL⟩ : ∃ X, X = w6.setRow (w.heap.size + 1) (b8 l).toArray := ⟨_, rfl⟩
  have HAL := hide (show At WL (w.heap.size + 1) 36 (b8 l) by rw [eWL]; exact HA6.out.put _)
  rw [← eWL]
  have EWL := hide eWL
  clear eWL
  go_wp2_with fail
  exact bodyPost_ret (retRow HAL.out Try.results41 _ (by rfl) (.array 4 5) 4 Try.underlying36 rfl (by kernel_rfl) HL.out) rfl ⟨rfl, _, HQ6.out, EWL.out⟩
theorem key_none (w : World) (p : Option Addr) (h : NoR w p) (hp : ∀ S, p = some ⟨S, 0, none⟩ → S < w.heap.size) : Calls Try.prog 41 #[.pointer p] w fun e w' => e = .returned (aggB (zz 4)) ∧ Below w.heap.size w w' := by
  have hb := WZ_below w (.pointer p) 36 4
  refine (key_call w p (zz 4) (by simp [zz]) _ (read_none_key _ p _ (by
    rcases h with rfl | ⟨S, rfl, hc⟩
    · exact .inl rfl
    · exact .inr ⟨S, rfl, (hb.cell (hp S rfl)).trans hc⟩) (fun S hS => Nat.lt_of_lt_of_le (hp S hS) hb.size)) (fun w1 h1 => (WZ_at2 _ _ _ _).below h1 (WZ_at2 _ _ _ _).lt)).mono ?_
  rintro e w' ⟨rfl, w1, h1, rfl⟩
  exact ⟨rfl, below_row (hb.trans (h1.mono hb.size)) (by omega)⟩
theorem key_fault (w : World) (R : Nat) (a : Option Addr) (c : Nat) (bs : List Int) (at' : Nat) (fe fa : Int) (h : RSt w R a c bs at' fe fa) (he : fe ≠ 0) : Calls Try.prog 41 #[.pointer (some ⟨R, 0, none⟩)] w fun e w' => e = .returned (aggB (zz 4)) ∧ Below w.heap.size w w' := by
  have hb := WZ_below w (.pointer (some ⟨R, 0, none⟩)) 36 4
  refine (key_call w _ (zz 4) (by simp [zz]) _ (read_fault_key _ R a c bs at' fe fa _ (h.below hb) he) (fun w1 h1 => (WZ_at2 _ _ _ _).below h1 (WZ_at2 _ _ _ _).lt)).mono ?_
  rintro e w' ⟨rfl, w1, h1, rfl⟩
  exact ⟨rfl, below_row (hb.trans (h1.mono hb.size)) (by omega)⟩
theorem key_read (w : World) (R : Nat) (a : Option Addr) (c : Nat) (bs : List Int) (at' : Nat) (h : RSt w R a c bs at' 0 0) : Calls Try.prog 41 #[.pointer (some ⟨R, 0, none⟩)] w (ReadPost w R a c bs at' (aggB (zz 4)) (outOf aggB (rowO 4 bs at'))) := by
  have hlt := h.lt
  have hb := WZ_below w (.pointer (some ⟨R, 0, none⟩)) 36 4
  have hsz := WZ_size w (.pointer (some ⟨R, 0, none⟩)) 36 4
  have C := read_key (WZ w (.pointer (some ⟨R, 0, none⟩)) 36 4) R a c bs at' w.heap.size (h.below hb) ((WZ_at1 _ _ _ _).cell 0)
  have k2 := WZ_at2 w (.pointer (some ⟨R, 0, none⟩)) 36 4
  have hoff : ∀ k, (Value.slice a bs.length c).ownBlock = some k → k ≠ w.heap.size + 1 := fun k hk => by
    have := h.olt k hk
    omega
  have hrow : ∀ {w1 : World} {q : Nat} {fe fa : Int} {cs : Array Value}, RSt w1 R a c bs q fe fa → RSt (w1.setRow (w.heap.size + 1) cs) R a c bs q fe fa := fun {w1 q fe fa cs} hr =>
    hr.fr (X := fun k => k = w.heap.size + 1) (Fr.setRow (Fr.refl _ w1) _ cs (fun _ => rfl)) (by omega) (fun k hk hx => hoff k hk hx)
  by_cases h1 : bs.length < at' + 4
  · rw [show rowO 4 bs at' = .inl 6 by unfold rowO; rw [if_pos h1]] at C ⊢
    refine (key_call w _ (zz 4) (by simp [zz]) _ C (fun w1 h1 => At.fr k2 h1.2 (fun h => by have h' : w.heap.size + 1 = R := h; omega))).mono ?_
    rintro e w' ⟨rfl, w1, ⟨⟨p, hr⟩, hf⟩, rfl⟩
    exact ⟨rfl, ⟨p, hrow hr⟩, Fr.setRow ((Fr.of_below hb).trans hf) _ _ (fun h => by omega)⟩
  · rw [show rowO 4 bs at' = .inr ((bs.drop at').take 4, at' + 4) by unfold rowO; rw [if_neg h1]] at C ⊢
    refine (key_call w _ ((bs.drop at').take 4) (by simp; omega) _ (C.mono fun e w' ⟨v, h1, h2, h3, h4⟩ => (⟨by rw [h1, h2], h3, h4⟩ : _ ∧ RSt w' R a c bs (at' + 4) 0 0 ∧ Fr (Xr R) (WZ w (.pointer (some ⟨R, 0, none⟩)) 36 4) w')) (fun w1 h1 => At.fr k2 h1.2 (fun h => by have h' : w.heap.size + 1 = R := h; omega))).mono ?_
    rintro e w' ⟨rfl, w1, ⟨hr, hf⟩, rfl⟩
    exact ⟨_, rfl, rfl, hrow hr, Fr.setRow ((Fr.of_below hb).trans hf) _ _ (fun h => by omega)⟩
end WirR
end Go.Proofs.Ytplinpbmncccoaa
