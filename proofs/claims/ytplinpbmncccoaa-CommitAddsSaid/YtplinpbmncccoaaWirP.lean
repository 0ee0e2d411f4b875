/-
  The program's reader: Hash, Key read; End, NewReader.
-/
import Derived.Test.YtplinpbmncccoaaWirO
namespace Go.Proofs.Ytplinpbmncccoaa
namespace WirP
open Go.RowKit
open BlkM WirM WirS WirA WirB WirE WirF WirG WirH WirI WirJ WirK WirL WirN WirO

def aggB (l : List Int) : Value := .agg (b8 l).toArray
/-- The world behind a box and a row of zeros. -/
def WZ (w : World) (p : Value) (T : TypeId) (n : Nat) : World := (w.alloc (.cells #[p] 48)).alloc (.cells (b8 (zz n)).toArray T)
theorem WZ_below (w : World) (p : Value) (T : TypeId) (n : Nat) : Below w.heap.size w (WZ w p T n) := Below.alloc (Below.alloc (Below.refl _ _) (Nat.le_refl _) _) (by simp) _
theorem WZ_at1 (w : World) (p : Value) (T : TypeId) (n : Nat) : At (WZ w p T n) w.heap.size 48 [p] := At.alloc (At.new w _ [_]) _
theorem WZ_at2 (w : World) (p : Value) (T : TypeId) (n : Nat) : At (WZ w p T n) (w.heap.size + 1) T (b8 (zz n)) := by
  have := At.new (w.alloc (.cells #[p] 48)) T (b8 (zz n))
  rw [World.size_alloc] at this
  exact this
theorem WZ_size (w : World) (p : Value) (T : TypeId) (n : Nat) : (WZ w p T n).heap.size = w.heap.size + 2 := by unfold WZ; simp
theorem zz_len (n : Nat) : (b8 (zz n)).length = n := by rw [b8_len]; simp [zz]
theorem hashC (w : World) (R : Nat) (a : Option Addr) (c : Nat) (bs : List Int) (at' b : Nat) (h : RSt w R a c bs at' 0 0) (hb : w.cell? ⟨b, 0, none⟩ = some (.pointer (some ⟨R, 0, none⟩))) :
    Calls Try.prog 128 #[.pointer (some ⟨b, 0, none⟩)] w (ElemPost w R a c bs (outOf aggB (rowO 32 bs at'))) := by
  obtain ⟨W0, e0⟩ : ∃ X, X = w.alloc (.cells (b8 (zz 32)).toArray 34) := ⟨_, rfl⟩
  have hB0 : Below w.heap.size w W0 := by rw [e0]; exact Below.alloc (Below.refl _ _) (Nat.le_refl _) _
  have hA0 : At W0 w.heap.size 34 (b8 (zz 32)) := by rw [e0]; exact At.new _ _ _
  have h0 := h.below hB0
  have hlt := h.lt
  have hblt : b < w.heap.size := World.block_lt_of_cell? w ⟨b, 0, none⟩ hb
  have hb0 : W0.cell? ⟨b, 0, none⟩ = some (.pointer (some ⟨R, 0, none⟩)) := (hB0.cell (p := ⟨b, 0, none⟩) hblt).trans hb
  have HB0 := hide hB0
  have HA0 := hide hA0
  have E0 := hide e0
  by_cases h1 : bs.length < at' + 32
  · have H := hide (take_short_hash W0 R a c bs at' (.func (.func 130) #[] #[]) h0 h1)
    rw [show rowO 32 bs at' = .inl 6 by unfold rowO; rw [if_pos h1]]
    clear h h1 e0 hB0 hA0 h0 hb
    go_enter Try.func128, Try.ntmps128
    go_upto_region 1 with fail
    rw [show w.alloc (.cells #[.int .u8 0, .int .u8 0, .int .u8 0, .int .u8 0, .int .u8 0, .int .u8 0, .int .u8 0, .int .u8 0, .int .u8 0, .int .u8 0, .int .u8 0, .int .u8 0, .int .u8 0, .int .u8 0, .int .u8 0, .int .u8 0, .int .u8 0, .int .u8 0, .int .u8 0, .int .u8 0, .int .u8 0, .int .u8 0, .int .u8 0, .int .u8 0, .int .u8 0, .int .u8 0, .int .u8 0, .int .u8 0, .int .u8 0, .int .u8 0, .int .u8 0, .int .u8 0] 34) = W0 from E0.out.symm]
    go_wp2_with ((go_at_call 129; refine (H.out).mono ?_; rintro e w1 ⟨rfl, h2, h3⟩))
    exact ⟨rfl, rfl, h2, (Fr.of_below HB0.out).trans h3⟩
  · have H := hide (take_hash W0 R a c bs at' h0 (by omega))
    have HO := hide (own_lt h.bin (by intro e; rw [e] at h1; simp at h1))
    have HZ := hide (show (b8 ((bs.drop at').take 32)).length = 32 by rw [b8_len]; simp; omega)
    rw [show rowO 32 bs at' = .inr ((bs.drop at').take 32, at' + 32) by unfold rowO; rw [if_neg h1]]
    generalize (bs.drop at').take 32 = l at H HZ ⊢
    clear h h1 e0 hB0 hA0 h0 hb
    go_enter Try.func128, Try.ntmps128
    go_upto_region 1 with fail
    rw [show w.alloc (.cells #[.int .u8 0, .int .u8 0, .int .u8 0, .int .u8 0, .int .u8 0, .int .u8 0, .int .u8 0, .int .u8 0, .int .u8 0, .int .u8 0, .int .u8 0, .int .u8 0, .int .u8 0, .int .u8 0, .int .u8 0, .int .u8 0, .int .u8 0, .int .u8 0, .int .u8 0, .int .u8 0, .int .u8 0, .int .u8 0, .int .u8 0, .int .u8 0, .int .u8 0, .int .u8 0, .int .u8 0, .int .u8 0, .int .u8 0, .int .u8 0, .int .u8 0, .int .u8 0] 34) = W0 from E0.out.symm]
    refine wp_region_lit ?_
    refine sP (by kernel_rfl) _ _ (by rfl) ⟨b, 0, none⟩ (by kernel_rfl) (.pointer (some ⟨R, 0, none⟩)) hb0 (by kernel_rfl) ?_
    simp only [Act.put, List.setIfInBounds_toArray, List.set_cons_succ, List.set_cons_zero]
    refine sC (R := fun w' => RSt w' R a c bs (at' + 32) 0 0 ∧ Fr (Xr R) W0 w') (by kernel_rfl) (by kernel_rfl) H.out ?_
    rintro w6 ⟨hr, hf⟩
    simp only [Act.put, List.setIfInBounds_toArray, List.set_cons_succ, List.set_cons_zero]
    have HA6 := hide (At.fr HA0.out hf (fun h => by have : w.heap.size = R := h; omega))
    have HR6 := hide hr
    have HF6 := hide ((Fr.of_below HB0.out).trans hf)
    clear hr hf
    refine stepStore (by rfl) _ _ _ (by rfl) _ (b8 l) (by kernel_rfl) (by kernel_rfl) HA6.out 32 (by kernel_rfl) (zz_len _) HZ.out (all_oneCell_toArray (one_b8 _)) ?_
    obtain ⟨WL, eWL⟩ : ∃ X, X = w6.setRow w.heap.size (b8 l).toArray := ⟨_, rfl⟩
    have HAL := hide (show At WL w.heap.size 34 (b8 l) by rw [eWL]; exact HA6.out.put _)
    have HFL := hide (show Fr (Xr R) w WL by rw [eWL]; exact Fr.setRow HF6.out _ _ (fun h => absurd h (Nat.lt_irrefl _)))
    have HRL := hide (show RSt WL R a c bs (at' + 32) 0 0 by rw [eWL]; exact RSt_row HR6.out _ _ (by omega) HO.out (Nat.le_refl _))
    rw [← eWL]
    clear eWL
    go_wp2_with fail
    exact bodyPost_ret (retRow HAL.out Try.results128 _ (by rfl) (.array 32 5) 32 Try.underlying34 rfl (by kernel_rfl) HZ.out) rfl ⟨_, rfl, rfl, HRL.out, HFL.out⟩
theorem idle_hash (p q : Addr) (w : World) :
    CallsD Try.prog 191 #[.pointer (some p), .pointer (some q)] .returning w fun e u' w' => e = .returned (.tuple #[]) ∧ u' = .returning ∧ w' = w := by
  refine callsD_of_wpS Try.func191 rfl fun c₀ cs hu => ?_
  apply wpS_seq
  apply wpS_region
  simp [wpOpsS, go_sem, recoverD, hu, Try.ntmps191, Exit.thenS]
  refine wpS_of_wp ?_
  go_wp2
  cases c₀
  simp_all [bodyPostS, results, Try.results191]
set_option maxRecDepth 8000 in
set_option maxHeartbeats 1000000 in
theorem catch_hash (p q : Nat) (w : World) (R : Nat) (a : Option Addr) (c : Nat) (bs : List Int) (at' : Nat) (fe fa code fr : Int) (h : RSt w R a c bs at' fe fa)
    (hp0 : w.cell? ⟨p, 0, none⟩ = some (.pointer (some ⟨R, 0, none⟩))) (hq0 : w.cell? ⟨q, 0, none⟩ = some (.int .i64 fr)) :
    CallsD Try.prog 191 #[.pointer (some ⟨p, 0, none⟩), .pointer (some ⟨q, 0, none⟩)] (.panicking (hp code)) w fun e u' w' => e = .returned (.tuple #[]) ∧ u' = .panicking (hp2 code) ∧ RSt w' R a c bs at' code fr ∧ Fr (Xr R) w w' := by
  have H := hide (halted_any w R a c bs at' fe fa code fr h)
  clear h
  refine callsD_of_wpS Try.func191 rfl fun c₀ cs hu => ?_
  apply wpS_seq
  apply wpS_region
  simp [wpOpsS, go_sem, recoverD, hu, hp, Try.ntmps191, Exit.thenS]
  refine wpS_of_wp ?_
  go_wp2_with ((go_at_call 184; refine (H.out).mono ?_; rintro e w1 ⟨rfl, h2⟩; have HH := hide h2; clear h2))
  exact ⟨rfl, _, rfl, _, by simp [results, Try.results191], rfl, rfl, HH.out⟩
/-- Where nothing is read: a row of zeros is handed back. -/
theorem idleread_hash (w : World) (p : Option Addr) (fv : Value) (h : ∀ W, Below w.heap.size w W → Calls Try.prog 116 #[.pointer p] W fun e w' => e = .returned (.bool false) ∧ W = w') : Calls Try.prog 127 #[.pointer p, fv] w fun e w' => e = .returned (aggB (zz 32)) ∧ Below w.heap.size w w' := by
  obtain ⟨W0, e0⟩ : ∃ X, X = WZ w (.pointer p) 34 32 := ⟨_, rfl⟩
  have HB0 := hide (show Below w.heap.size w W0 by rw [e0]; exact WZ_below _ _ _ _)
  have HA0 := hide (show At W0 (w.heap.size + 1) 34 (b8 (zz 32)) by rw [e0]; exact WZ_at2 _ _ _ _)
  have hc : W0.cell? ⟨w.heap.size, 0, none⟩ = some (.pointer p) := by rw [e0]; exact (WZ_at1 _ _ _ _).cell 0
  have H := hide (h W0 HB0.out)
  have E0 := hide e0
  clear h e0
  have hmf : ∀ (fn : Fn) (first cap : Array Value) (w : World), (Instr.makeFunc fn first cap).run Try.prog w = .ok (.func fn first cap) w := fun _ _ _ _ => rfl
  go_enter_defers Try.func127, Try.ntmps127
  go_upto_region 1 with fail
  rw [show (w.alloc (.cells #[.pointer p] 48)).alloc (.cells #[.int .u8 0, .int .u8 0, .int .u8 0, .int .u8 0, .int .u8 0, .int .u8 0, .int .u8 0, .int .u8 0, .int .u8 0, .int .u8 0, .int .u8 0, .int .u8 0, .int .u8 0, .int .u8 0, .int .u8 0, .int .u8 0, .int .u8 0, .int .u8 0, .int .u8 0, .int .u8 0, .int .u8 0, .int .u8 0, .int .u8 0, .int .u8 0, .int .u8 0, .int .u8 0, .int .u8 0, .int .u8 0, .int .u8 0, .int .u8 0, .int .u8 0, .int .u8 0] 34) = W0 from E0.out.symm]
  go_upto_region 2 with ((go_at_call 116; refine (H.out).mono ?_; rintro e w1 ⟨rfl, rfl⟩))
  refine wp_region_lit ?_
  refine sL (by kernel_rfl) _ _ (by rfl) _ (by kernel_rfl) HA0.out _ 32 Try.underlying34 rfl (by kernel_rfl) (zz_len _) ?_
  simp only [Act.put, List.setIfInBounds_toArray, List.set_cons_succ, List.set_cons_zero]
  refine stepStore (by rfl) _ _ _ (by rfl) _ (b8 (zz 32)) (by kernel_rfl) (by kernel_rfl) HA0.out 32 (by kernel_rfl) (zz_len _) (zz_len _) (all_oneCell_toArray (one_b8 _)) ?_
  obtain ⟨WL, eWL⟩ : ∃ X, X = W0.setRow (w.heap.size + 1) (b8 (zz 32)).toArray := ⟨_, rfl⟩
  have HAL := hide (show At WL (w.heap.size + 1) 34 (b8 (zz 32)) by rw [eWL]; exact HA0.out.put _)
  have HBL := hide (show Below w.heap.size w WL by rw [eWL]; exact Below.setRowOwn HB0.out (by omega) _)
  rw [← eWL]
  clear eWL
  go_wp2_with fail
  exact ⟨_, retRow HAL.out Try.results127 _ (by rfl) (.array 32 5) 32 Try.underlying34 rfl (by kernel_rfl) (zz_len _), rfl, HBL.out⟩
theorem read_none_hash (w : World) (p : Option Addr) (fv : Value) (h : NoR w p) (hp : ∀ S, p = some ⟨S, 0, none⟩ → S < w.heap.size) : Calls Try.prog 127 #[.pointer p, fv] w fun e w' => e = .returned (aggB (zz 32)) ∧ Below w.heap.size w w' :=
  idleread_hash w p fv (fun W hb => reads_none W p (by
    rcases h with rfl | ⟨S, rfl, hc⟩
    · exact .inl rfl
    · exact .inr ⟨S, rfl, (hb.cell (hp S rfl)).trans hc⟩))
theorem read_fault_hash (w : World) (R : Nat) (a : Option Addr) (c : Nat) (bs : List Int) (at' : Nat) (fe fa : Int) (fv : Value) (h : RSt w R a c bs at' fe fa) (he : fe ≠ 0) : Calls Try.prog 127 #[.pointer (some ⟨R, 0, none⟩), fv] w fun e w' => e = .returned (aggB (zz 32)) ∧ Below w.heap.size w w' :=
  idleread_hash w _ fv (fun W hb => by
    have := reads_any W R a c bs at' fe fa (h.below hb)
    rwa [show (fe == 0) = false by simpa using he] at this)
theorem keyC (w : World) (R : Nat) (a : Option Addr) (c : Nat) (bs : List Int) (at' b : Nat) (h : RSt w R a c bs at' 0 0) (hb : w.cell? ⟨b, 0, none⟩ = some (.pointer (some ⟨R, 0, none⟩))) :
    Calls Try.prog 132 #[.pointer (some ⟨b, 0, none⟩)] w (ElemPost w R a c bs (outOf aggB (rowO 4 bs at'))) := by
  obtain ⟨W0, e0⟩ : ∃ X, X = w.alloc (.cells (b8 (zz 4)).toArray 36) := ⟨_, rfl⟩
  have hB0 : Below w.heap.size w W0 := by rw [e0]; exact Below.alloc (Below.refl _ _) (Nat.le_refl _) _
  have hA0 : At W0 w.heap.size 36 (b8 (zz 4)) := by rw [e0]; exact At.new _ _ _
  have h0 := h.below hB0
  have hlt := h.lt
  have hblt : b < w.heap.size := World.block_lt_of_cell? w ⟨b, 0, none⟩ hb
  have hb0 : W0.cell? ⟨b, 0, none⟩ = some (.pointer (some ⟨R, 0, none⟩)) := (hB0.cell (p := ⟨b, 0, none⟩) hblt).trans hb
  have HB0 := hide hB0
  have HA0 := hide hA0
  have E0 := hide e0
  by_cases h1 : bs.length < at' + 4
  · have H := hide (take_short_key W0 R a c bs at' (.func (.func 134) #[] #[]) h0 h1)
    rw [show rowO 4 bs at' = .inl 6 by unfold rowO; rw [if_pos h1]]
    clear h h1 e0 hB0 hA0 h0 hb
    go_enter Try.func132, Try.ntmps132
    go_upto_region 1 with fail
    rw [show w.alloc (.cells #[.int .u8 0, .int .u8 0, .int .u8 0, .int .u8 0] 36) = W0 from E0.out.symm]
    go_wp2_with ((go_at_call 133; refine (H.out).mono ?_; rintro e w1 ⟨rfl, h2, h3⟩))
    exact ⟨rfl, rfl, h2, (Fr.of_below HB0.out).trans h3⟩
  · have H := hide (take_key W0 R a c bs at' h0 (by omega))
    have HO := hide (own_lt h.bin (by intro e; rw [e] at h1; simp at h1))
    have HZ := hide (show (b8 ((bs.drop at').take 4)).length = 4 by rw [b8_len]; simp; omega)
    rw [show rowO 4 bs at' = .inr ((bs.drop at').take 4, at' + 4) by unfold rowO; rw [if_neg h1]]
    generalize (bs.drop at').take 4 = l at H HZ ⊢
    clear h h1 e0 hB0 hA0 h0 hb
    go_enter Try.func132, Try.ntmps132
    go_upto_region 1 with fail
    rw [show w.alloc (.cells #[.int .u8 0, .int .u8 0, .int .u8 0, .int .u8 0] 36) = W0 from E0.out.symm]
    refine wp_region_lit ?_
    refine sP (by kernel_rfl) _ _ (by rfl) ⟨b, 0, none⟩ (by kernel_rfl) (.pointer (some ⟨R, 0, none⟩)) hb0 (by kernel_rfl) ?_
    simp only [Act.put, List.setIfInBounds_toArray, List.set_cons_succ, List.set_cons_zero]
    refine sC (R := fun w' => RSt w' R a c bs (at' + 4) 0 0 ∧ Fr (Xr R) W0 w') (by kernel_rfl) (by kernel_rfl) H.out ?_
    rintro w6 ⟨hr, hf⟩
    simp only [Act.put, List.setIfInBounds_toArray, List.set_cons_succ, List.set_cons_zero]
    have HA6 := hide (At.fr HA0.out hf (fun h => by have : w.heap.size = R := h; omega))
    have HR6 := hide hr
    have HF6 := hide ((Fr.of_below HB0.out).trans hf)
    clear hr hf
    refine stepStore (by rfl) _ _ _ (by rfl) _ (b8 l) (by kernel_rfl) (by kernel_rfl) HA6.out 4 (by kernel_rfl) (zz_len _) HZ.out (all_oneCell_toArray (one_b8 _)) ?_
    obtain ⟨WL, eWL⟩ : ∃ X, X = w6.setRow w.heap.size (b8 l).toArray := ⟨_, rfl⟩
    have HAL := hide (show At WL w.heap.size 36 (b8 l) by rw [eWL]; exact HA6.out.put _)
    have HFL := hide (show Fr (Xr R) w WL by rw [eWL]; exact Fr.setRow HF6.out _ _ (fun h => absurd h (Nat.lt_irrefl _)))
    have HRL := hide (show RSt WL R a c bs (at' + 4) 0 0 by rw [eWL]; exact RSt_row HR6.out _ _ (by omega) HO.out (Nat.le_refl _))
    rw [← eWL]
    clear eWL
    go_wp2_with fail
    exact bodyPost_ret (retRow HAL.out Try.results132 _ (by rfl) (.array 4 5) 4 Try.underlying36 rfl (by kernel_rfl) HZ.out) rfl ⟨_, rfl, rfl, HRL.out, HFL.out⟩
theorem idle_key (p q : Addr) (w : World) :
    CallsD Try.prog 192 #[.pointer (some p), .pointer (some q)] .returning w fun e u' w' => e = .returned (.tuple #[]) ∧ u' = .returning ∧ w' = w := by
  refine callsD_of_wpS Try.func192 rfl fun c₀ cs hu => ?_
  apply wpS_seq
  apply wpS_region
  simp [wpOpsS, go_sem, recoverD, hu, Try.ntmps192, Exit.thenS]
  refine wpS_of_wp ?_
  go_wp2
  cases c₀
  simp_all [bodyPostS, results, Try.results192]
set_option maxRecDepth 8000 in
set_option maxHeartbeats 1000000 in
theorem catch_key (p q : Nat) (w : World) (R : Nat) (a : Option Addr) (c : Nat) (bs : List Int) (at' : Nat) (fe fa code fr : Int) (h : RSt w R a c bs at' fe fa)
    (hp0 : w.cell? ⟨p, 0, none⟩ = some (.pointer (some ⟨R, 0, none⟩))) (hq0 : w.cell? ⟨q, 0, none⟩ = some (.int .i64 fr)) :
    CallsD Try.prog 192 #[.pointer (some ⟨p, 0, none⟩), .pointer (some ⟨q, 0, none⟩)] (.panicking (hp code)) w fun e u' w' => e = .returned (.tuple #[]) ∧ u' = .panicking (hp2 code) ∧ RSt w' R a c bs at' code fr ∧ Fr (Xr R) w w' := by
  have H := hide (halted_any w R a c bs at' fe fa code fr h)
  clear h
  refine callsD_of_wpS Try.func192 rfl fun c₀ cs hu => ?_
  apply wpS_seq
  apply wpS_region
  simp [wpOpsS, go_sem, recoverD, hu, hp, Try.ntmps192, Exit.thenS]
  refine wpS_of_wp ?_
  go_wp2_with ((go_at_call 184; refine (H.out).mono ?_; rintro e w1 ⟨rfl, h2⟩; have HH := hide h2; clear h2))
  exact ⟨rfl, _, rfl, _, by simp [results, Try.results192], rfl, rfl, HH.out⟩
/-- Where nothing is read: a row of zeros is handed back. -/
theorem idleread_key (w : World) (p : Option Addr) (fv : Value) (h : ∀ W, Below w.heap.size w W → Calls Try.prog 116 #[.pointer p] W fun e w' => e = .returned (.bool false) ∧ W = w') : Calls Try.prog 131 #[.pointer p, fv] w fun e w' => e = .returned (aggB (zz 4)) ∧ Below w.heap.size w w' := by
  obtain ⟨W0, e0⟩ : ∃ X, X = WZ w (.pointer p) 36 4 := ⟨_, rfl⟩
  have HB0 := hide (show Below w.heap.size w W0 by rw [e0]; exact WZ_below _ _ _ _)
  have HA0 := hide (show At W0 (w.heap.size + 1) 36 (b8 (zz 4)) by rw [e0]; exact WZ_at2 _ _ _ _)
  have hc : W0.cell? ⟨w.heap.size, 0, none⟩ = some (.pointer p) := by rw [e0]; exact (WZ_at1 _ _ _ _).cell 0
  have H := hide (h W0 HB0.out)
  have E0 := hide e0
  clear h e0
  have hmf : ∀ (fn : Fn) (first cap : Array Value) (w : World), (Instr.makeFunc fn first cap).run Try.prog w = .ok (.func fn first cap) w := fun _ _ _ _ => rfl
  go_enter_defers Try.func131, Try.ntmps131
  go_upto_region 1 with fail
  rw [show (w.alloc (.cells #[.pointer p] 48)).alloc (.cells #[.int .u8 0, .int .u8 0, .int .u8 0, .int .u8 0] 36) = W0 from E0.out.symm]
  go_upto_region 2 with ((go_at_call 116; refine (H.out).mono ?_; rintro e w1 ⟨rfl, rfl⟩))
  refine wp_region_lit ?_
  refine sL (by kernel_rfl) _ _ (by rfl) _ (by kernel_rfl) HA0.out _ 4 Try.underlying36 rfl (by kernel_rfl) (zz_len _) ?_
  simp only [Act.put, List.setIfInBounds_toArray, List.set_cons_succ, List.set_cons_zero]
  refine stepStore (by rfl) _ _ _ (by rfl) _ (b8 (zz 4)) (by kernel_rfl) (by kernel_rfl) HA0.out 4 (by kernel_rfl) (zz_len _) (zz_len _) (all_oneCell_toArray (one_b8 _)) ?_
  obtain ⟨WL, eWL⟩ : ∃ X, X = W0.setRow (w.heap.size + 1) (b8 (zz 4)).toArray := ⟨_, rfl⟩
  have HAL := hide (show At WL (w.heap.size + 1) 36 (b8 (zz 4)) by rw [eWL]; exact HA0.out.put _)
  have HBL := hide (show Below w.heap.size w WL by rw [eWL]; exact Below.setRowOwn HB0.out (by omega) _)
  rw [← eWL]
  clear eWL
  go_wp2_with fail
  exact ⟨_, retRow HAL.out Try.results131 _ (by rfl) (.array 4 5) 4 Try.underlying36 rfl (by kernel_rfl) (zz_len _), rfl, HBL.out⟩
theorem read_none_key (w : World) (p : Option Addr) (fv : Value) (h : NoR w p) (hp : ∀ S, p = some ⟨S, 0, none⟩ → S < w.heap.size) : Calls Try.prog 131 #[.pointer p, fv] w fun e w' => e = .returned (aggB (zz 4)) ∧ Below w.heap.size w w' :=
  idleread_key w p fv (fun W hb => reads_none W p (by
    rcases h with rfl | ⟨S, rfl, hc⟩
    · exact .inl rfl
    · exact .inr ⟨S, rfl, (hb.cell (hp S rfl)).trans hc⟩))
theorem read_fault_key (w : World) (R : Nat) (a : Option Addr) (c : Nat) (bs : List Int) (at' : Nat) (fe fa : Int) (fv : Value) (h : RSt w R a c bs at' fe fa) (he : fe ≠ 0) : Calls Try.prog 131 #[.pointer (some ⟨R, 0, none⟩), fv] w fun e w' => e = .returned (aggB (zz 4)) ∧ Below w.heap.size w w' :=
  idleread_key w _ fv (fun W hb => by
    have := reads_any W R a c bs at' fe fa (h.below hb)
    rwa [show (fe == 0) = false by simpa using he] at this)
end WirP
end Go.Proofs.Ytplinpbmncccoaa
