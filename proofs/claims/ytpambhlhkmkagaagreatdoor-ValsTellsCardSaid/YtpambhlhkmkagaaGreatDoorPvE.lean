/-
  WirH, WirI, WirJ, WirK, WirL, in one text.
-/
import Derived.Test.YtpambhlhkmkagaaGreatDoorPvD
namespace Go.Proofs.YtpambhlhkmkagaaGreatDoor
namespace WirH
open Go.RowKit
open BlkM WirM WirS WirA WirB WirG

/-- The panic that ends an element. -/
def hp (c : Int) : List PanicEntry := [{ v := .iface 140 (.agg #[.int .i64 c]), recovered := false }]
def badN (zs : List Int) : Prop := (zs ≠ [] ∧ zs.getD 0 0 = 0) ∨ 9223372036854775807 < vL zs
instance (zs : List Int) : Decidable (badN zs) := by unfold badN; exact inferInstance
set_option maxHeartbeats 1000000 in
theorem natural_bad (w : World) (a : Option Addr) (n c : Nat) (zs : List Int) (h : BIn w (.slice a n c) zs) (hr : ∀ x ∈ zs, 0 ≤ x ∧ x < 256) (h8 : zs.length ≤ 8) (hb : badN zs) :
    Calls Tryz.prog 90 #[.slice a n c] w fun e w' => e = .panicked (hp 5) ∧ w = w' := by
  have H := hide (word_any w a n c zs h hr h8)
  obtain ⟨a', c', e1, _, hz⟩ := h
  obtain ⟨rfl, rfl, rfl⟩ : a = a' ∧ n = zs.length ∧ c = c' := by cases e1; exact ⟨rfl, rfl, rfl⟩
  have hv := vL_lt zs hr
  by_cases hne : zs = []
  · subst hne
    rcases hb with ⟨h, _⟩ | h
    · exact absurd rfl h
    · simp [vL] at h
  · obtain ⟨B, o, rfl, _, hc⟩ := hz hne
    have hpos : 0 < zs.length := List.length_pos_iff.2 hne
    have hc0 := hc 0 hpos
    rw [Nat.add_zero] at hc0
    have hb' : zs.getD 0 0 = 0 ∨ (¬ zs.getD 0 0 = 0 ∧ 9223372036854775807 < vL zs) := by
      by_cases h0 : zs.getD 0 0 = 0
      · exact .inl h0
      · exact .inr ⟨h0, hb.elim (fun h => absurd h.2 h0) id⟩
    obtain ⟨k, hk⟩ : ∃ k, k = zs.length := ⟨_, rfl⟩
    generalize zs.getD 0 0 = x at hc0 hb'
    generalize vL zs = m at H hv hb'
    rw [← hk] at hpos H ⊢
    clear hc hb hk e1 hz
    rcases hb' with rfl | ⟨h0, h1⟩
    · go_enter Tryz.func90, Tryz.ntmps90
      go_wp2_with ((go_at_call 88; refine (H.out).mono ?_; rintro e w1 ⟨rfl, rfl⟩))
      exact ⟨rfl, rfl, rfl⟩
    · have e0 : (x == 0) = false := by simpa using h0
      go_enter Tryz.func90, Tryz.ntmps90
      go_wp2_with ((go_at_call 88; refine (H.out).mono ?_; rintro e w1 ⟨rfl, rfl⟩))
      exact ⟨rfl, rfl, rfl⟩
set_option maxHeartbeats 1000000 in
theorem natural_ok (w : World) (a : Option Addr) (n c : Nat) (zs : List Int) (h : BIn w (.slice a n c) zs) (hr : ∀ x ∈ zs, 0 ≤ x ∧ x < 256) (h8 : zs.length ≤ 8) (hb : ¬ badN zs) :
    Calls Tryz.prog 90 #[.slice a n c] w fun e w' => e = .returned (.int .i64 (vL zs)) ∧ w = w' := by
  have H := hide (word_any w a n c zs h hr h8)
  obtain ⟨a', c', e1, _, hz⟩ := h
  obtain ⟨rfl, rfl, rfl⟩ : a = a' ∧ n = zs.length ∧ c = c' := by cases e1; exact ⟨rfl, rfl, rfl⟩
  have hv := (vL_lt zs hr).1
  have hv2 : ¬ 9223372036854775807 < vL zs := fun h => hb (.inr h)
  by_cases hne : zs = []
  · subst hne
    have HV := hide (show vL [] = 0 from rfl)
    generalize vL [] = m at H hv hv2 HV ⊢
    clear hz e1 hb
    have hv3 : m ≤ 9223372036854775807 := by omega
    go_enter Tryz.func90, Tryz.ntmps90
    go_wp2_with ((go_at_call 88; refine (H.out).mono ?_; rintro e w1 ⟨rfl, rfl⟩))
    go_ret
    exact ⟨rfl, rfl⟩
  · obtain ⟨B, o, rfl, _, hc⟩ := hz hne
    have hpos : 0 < zs.length := List.length_pos_iff.2 hne
    have hc0 := hc 0 hpos
    rw [Nat.add_zero] at hc0
    have h0 : ¬ zs.getD 0 0 = 0 := fun h => hb (.inl ⟨hne, h⟩)
    obtain ⟨k, hk⟩ : ∃ k, k = zs.length := ⟨_, rfl⟩
    generalize zs.getD 0 0 = x at hc0 h0
    generalize vL zs = m at H hv hv2 ⊢
    rw [← hk] at hpos H ⊢
    have e0 : (x == 0) = false := by simpa using h0
    have hv3 : m ≤ 9223372036854775807 := by omega
    clear hc hb hk e1 hz
    go_enter Tryz.func90, Tryz.ntmps90
    go_wp2_with ((go_at_call 88; refine (H.out).mono ?_; rintro e w1 ⟨rfl, rfl⟩))
    go_ret
    exact ⟨rfl, rfl⟩
/-! ### take -/
def Got (w : World) (R : Nat) (a : Option Addr) (c : Nat) (bs : List Int) (v : Value) (at' : Nat) (e : Ending) (w' : World) : Prop := e = .returned v ∧ RSt w' R a c bs at' 0 0 ∧ Fr (Xr R) w w'
def Bad (w : World) (R : Nat) (a : Option Addr) (c : Nat) (bs : List Int) (code : Int) (e : Ending) (w' : World) : Prop := e = .panicked (hp code) ∧ (∃ at', RSt w' R a c bs at' 0 0) ∧ Fr (Xr R) w w'
/-- Where a part of bytes begins. -/
def sa (a : Option Addr) (c at' : Nat) : Option Addr := if c = at' then a else a.map (·.add at')
theorem bin_sub {w : World} {a : Option Addr} {c : Nat} {bs : List Int} (h : BIn w (.slice a bs.length c) bs) (at' n : Nat) (hn : at' + n ≤ bs.length) : BIn w (.slice (sa a c at') n (c - at')) ((bs.drop at').take n) := by
  obtain ⟨a', c', e1, hc, hz⟩ := h
  obtain ⟨rfl, rfl⟩ : a = a' ∧ c = c' := by cases e1; exact ⟨rfl, rfl⟩
  have hl : ((bs.drop at').take n).length = n := by simp; omega
  refine ⟨_, _, by rw [hl], by rw [hl]; omega, fun hne => ?_⟩
  have hpos : 0 < n := by
    have := List.length_pos_iff.2 hne
    omega
  obtain ⟨B, o, rfl, hB, hcell⟩ := hz (by intro h; subst h; simp at hn; omega)
  have hca : ¬ c = at' := by omega
  refine ⟨B, o + at', by simp [sa, hca, Addr.add_lit], hB, fun i hi => ?_⟩
  rw [hl] at hi
  rw [Nat.add_assoc, hcell (at' + i) (by omega)]
  simp [List.getD, hi]
theorem sub_rng {bs : List Int} (h : ∀ x ∈ bs, 0 ≤ x ∧ x < 256) (at' n : Nat) : ∀ x ∈ (bs.drop at').take n, 0 ≤ x ∧ x < 256 := fun x hx => h x (List.mem_of_mem_drop (List.mem_of_mem_take hx))
theorem slR (a : Option Addr) (len cap l m n : Nat) (hm : m = l + n) (h : m ≤ len) (hc : len ≤ cap) (Y : World) : (Instr.sliceAt 35 (.slice a len cap) (some (.int .i64 (l : Int))) (some (.int .i64 (m : Int))) none).run Tryz.prog Y = .ok (.slice (sa a cap l) n (cap - l)) Y := by
  have hu : Tryz.prog.underlying 35 = some (.slice (Tryz.prog.elem 35)) := by kernel_rfl
  rw [run_sliceAt_slice Y 35 _ _ _ _ hu, run_slice_lh Y 35 a len cap hu .i64 .i64 (l : Int) (m : Int) (by omega) (by omega) (by omega)]
  have hs : (sizeOf (Tryz.prog.elem 35)).run Tryz.prog Y = .ok 1 Y := by kernel_rfl
  rw [hs]
  simp [sliced, sa]
  omega
theorem RSt_move {w : World} {R : Nat} {a : Option Addr} {c : Nat} {bs : List Int} {at' : Nat} {fe fa : Int} (h : RSt w R a c bs at' fe fa) (m : Nat) (hm : m ≤ bs.length) : RSt (w.setCell ⟨R, 2, none⟩ (.int .i64 (m : Int))) R a c bs m fe fa :=
  ⟨h.cell.setCell 2 _, h.bin.fr (X := fun k => k = R) ((Fr.refl _ w).setCell R 2 _ (fun _ => rfl)) (fun k hk hx => h.off (by rw [hk, hx])), h.off, fun k hk => by simpa using h.olt k hk, hm, h.small, h.bytes⟩
theorem RSt_drawn {w : World} {R : Nat} {a : Option Addr} {c : Nat} {bs : List Int} {at' : Nat} {fe fa : Int} (h : RSt w R a c bs at' fe fa) (q : Nat) : RSt (w.drewN q) R a c bs at' fe fa :=
  h.fr (X := fun _ => False) (Fr.drewN (Fr.refl _ w) q) (fun h => h) (fun _ _ h => h)
theorem RSt_drew {w : World} {R : Nat} {a : Option Addr} {c : Nat} {bs : List Int} {at' : Nat} {fe fa : Int} (h : RSt w R a c bs at' fe fa) : RSt w.drew R a c bs at' fe fa :=
  h.fr (X := fun _ => False) (Fr.drew (Fr.refl _ w)) (fun h => h) (fun _ _ h => h)
set_option maxHeartbeats 1000000 in
theorem take_short_word (w : World) (R : Nat) (a : Option Addr) (c : Nat) (bs : List Int) (at' n : Nat) (fv : Value) (h : RSt w R a c bs at' 0 0) (_hn : n ≤ 9223372036854775807) (hs : bs.length < at' + n) :
    Calls Tryz.prog 87 #[.pointer (some ⟨R, 0, none⟩), .int .i64 (n : Int), fv] w (Bad w R a c bs 6) := by
  have c1 : w.cell? ⟨R, 1, none⟩ = some (.slice a bs.length c) := by rw [h.cell.cell]; rfl
  have c2 : w.cell? ⟨R, 2, none⟩ = some (.int .i64 (at' : Int)) := by rw [h.cell.cell]; rfl
  have hle := h.le
  have hsm := h.small
  have HR := hide (fun q => RSt_drawn h q)
  obtain ⟨k, hk⟩ : ∃ k, k = bs.length := ⟨_, rfl⟩
  rw [← hk] at hle hsm hs c1
  have w1 : IntKind.i64.wrap (↑k - ↑at') = (k : Int) - (at' : Int) := IntWalk.i64_in _ (by omega)
  have w3 : decide ((k : Int) - (at' : Int) < (n : Int)) = true := decide_eq_true (by omega)
  clear h hk
  go_enter Tryz.func87, Tryz.ntmps87
  go_upto_region 1 with fail
  go_quiet (fail)
  go_wp2_with fail
  exact ⟨rfl, rfl, ⟨at', HR.out _⟩, Fr.drewN (Fr.refl _ w) _⟩
set_option maxRecDepth 4000 in
set_option maxHeartbeats 1000000 in
theorem take_word (w : World) (R : Nat) (a : Option Addr) (c : Nat) (bs : List Int) (at' n : Nat) (h : RSt w R a c bs at' 0 0) (hn : at' + n ≤ bs.length) (Q : Ending → World → Prop) (hno : ∀ W, ¬ Q .outgrown W)
    (hG : ∀ W, RSt W R a c bs (at' + n) 0 0 → Fr (Xr R) w W → Calls Tryz.prog 88 #[.slice (sa a c at') n (c - at')] W Q) :
    Calls Tryz.prog 87 #[.pointer (some ⟨R, 0, none⟩), .int .i64 (n : Int), .func (.func 88) #[] #[]] w Q := by
  have c1 : w.cell? ⟨R, 1, none⟩ = some (.slice a bs.length c) := by rw [h.cell.cell]; rfl
  have c2 : w.cell? ⟨R, 2, none⟩ = some (.int .i64 (at' : Int)) := by rw [h.cell.cell]; rfl
  have f2 : w.frozen? ⟨R, 2, none⟩ = false := h.cell.frozen 2
  have hle := h.le
  have hsm := h.small
  obtain ⟨m, hm⟩ : ∃ m, m = at' + n := ⟨_, rfl⟩
  have hcap : bs.length ≤ c := by obtain ⟨_, _, e1, hc, _⟩ := h.bin; cases e1; exact hc
  have HG := hide hG
  have HW := hide (fun q => show RSt ((w.drewN q).setCell ⟨R, 2, none⟩ (.int .i64 (m : Int))) R a c bs (at' + n) 0 0 ∧ Fr (Xr R) w ((w.drewN q).setCell ⟨R, 2, none⟩ (.int .i64 (m : Int))) from ⟨by rw [hm]; exact RSt_move (RSt_drawn h q) (at' + n) hn, (Fr.drewN (Fr.refl (Xr R) w) q).setCell R 2 _ (fun _ => rfl)⟩)
  obtain ⟨k, hk⟩ : ∃ k, k = bs.length := ⟨_, rfl⟩
  rw [← hk] at hle hsm hn c1 hcap
  have w1 : IntKind.i64.wrap (↑k - ↑at') = (k : Int) - (at' : Int) := IntWalk.i64_in _ (by omega)
  have w2 : IntKind.i64.wrap (↑at' + ↑n) = (m : Int) := by rw [IntWalk.i64_in _ (by omega)]; omega
  have w4 : (at' : Int) + (n : Int) = (m : Int) := by omega
  have w3 : decide ((k : Int) - (at' : Int) < (n : Int)) = false := decide_eq_false (by omega)
  have hsl := slR a k c at' m n hm (by omega) hcap
  have HK := hide hk
  have HM := hide hm
  clear h hk hG hm
  go_enter Tryz.func87, Tryz.ntmps87
  go_upto_region 1 with fail
  go_quiet (fail)
  go_upto_region 5 with fail
  obtain ⟨W5, e5⟩ : ∃ X, X = (w.drewN nq).setCell ⟨R, 2, none⟩ (.int .i64 (m : Int)) := ⟨_, rfl⟩
  rw [← e5]
  have HW5 := HW.out nq
  rw [← e5] at HW5
  have c1' : W5.cell? ⟨R, 1, none⟩ = some (.slice a k c) := by rw [HW5.1.cell.cell, HK.out]; rfl
  have c2' : W5.cell? ⟨R, 2, none⟩ = some (.int .i64 (m : Int)) := by rw [HW5.1.cell.cell, HM.out]; rfl
  have HR5 := hide HW5.1
  have HF5 := hide HW5.2
  clear e5 HW5 c1 c2 f2 w1 w2 w3 w4
  go_still_tail 11, (by kernel_rfl)
  go_wp2_with fail
  refine (HG.out _ (RSt_drew HR5.out) (Fr.drew HF5.out)).mono ?_
  rintro (v | ch | _) w1 hq
  · have HQ := hide hq
    clear hq
    go_wp2_with fail
    exact HQ.out
  · exact ⟨rfl, hq⟩
  · exact absurd hq (hno _)
set_option maxHeartbeats 1000000 in
theorem take_short_natural (w : World) (R : Nat) (a : Option Addr) (c : Nat) (bs : List Int) (at' n : Nat) (fv : Value) (h : RSt w R a c bs at' 0 0) (_hn : n ≤ 9223372036854775807) (hs : bs.length < at' + n) :
    Calls Tryz.prog 89 #[.pointer (some ⟨R, 0, none⟩), .int .i64 (n : Int), fv] w (Bad w R a c bs 6) := by
  have c1 : w.cell? ⟨R, 1, none⟩ = some (.slice a bs.length c) := by rw [h.cell.cell]; rfl
  have c2 : w.cell? ⟨R, 2, none⟩ = some (.int .i64 (at' : Int)) := by rw [h.cell.cell]; rfl
  have hle := h.le
  have hsm := h.small
  have HR := hide (fun q => RSt_drawn h q)
  obtain ⟨k, hk⟩ : ∃ k, k = bs.length := ⟨_, rfl⟩
  rw [← hk] at hle hsm hs c1
  have w1 : IntKind.i64.wrap (↑k - ↑at') = (k : Int) - (at' : Int) := IntWalk.i64_in _ (by omega)
  have w3 : decide ((k : Int) - (at' : Int) < (n : Int)) = true := decide_eq_true (by omega)
  clear h hk
  go_enter Tryz.func89, Tryz.ntmps89
  go_upto_region 1 with fail
  go_quiet (fail)
  go_wp2_with fail
  exact ⟨rfl, rfl, ⟨at', HR.out _⟩, Fr.drewN (Fr.refl _ w) _⟩
set_option maxRecDepth 4000 in
set_option maxHeartbeats 1000000 in
theorem take_natural (w : World) (R : Nat) (a : Option Addr) (c : Nat) (bs : List Int) (at' n : Nat) (h : RSt w R a c bs at' 0 0) (hn : at' + n ≤ bs.length) (Q : Ending → World → Prop) (hno : ∀ W, ¬ Q .outgrown W)
    (hG : ∀ W, RSt W R a c bs (at' + n) 0 0 → Fr (Xr R) w W → Calls Tryz.prog 90 #[.slice (sa a c at') n (c - at')] W Q) :
    Calls Tryz.prog 89 #[.pointer (some ⟨R, 0, none⟩), .int .i64 (n : Int), .func (.func 90) #[] #[]] w Q := by
  have c1 : w.cell? ⟨R, 1, none⟩ = some (.slice a bs.length c) := by rw [h.cell.cell]; rfl
  have c2 : w.cell? ⟨R, 2, none⟩ = some (.int .i64 (at' : Int)) := by rw [h.cell.cell]; rfl
  have f2 : w.frozen? ⟨R, 2, none⟩ = false := h.cell.frozen 2
  have hle := h.le
  have hsm := h.small
  obtain ⟨m, hm⟩ : ∃ m, m = at' + n := ⟨_, rfl⟩
  have hcap : bs.length ≤ c := by obtain ⟨_, _, e1, hc, _⟩ := h.bin; cases e1; exact hc
  have HG := hide hG
  have HW := hide (fun q => show RSt ((w.drewN q).setCell ⟨R, 2, none⟩ (.int .i64 (m : Int))) R a c bs (at' + n) 0 0 ∧ Fr (Xr R) w ((w.drewN q).setCell ⟨R, 2, none⟩ (.int .i64 (m : Int))) from ⟨by rw [hm]; exact RSt_move (RSt_drawn h q) (at' + n) hn, (Fr.drewN (Fr.refl (Xr R) w) q).setCell R 2 _ (fun _ => rfl)⟩)
  obtain ⟨k, hk⟩ : ∃ k, k = bs.length := ⟨_, rfl⟩
  rw [← hk] at hle hsm hn c1 hcap
  have w1 : IntKind.i64.wrap (↑k - ↑at') = (k : Int) - (at' : Int) := IntWalk.i64_in _ (by omega)
  have w2 : IntKind.i64.wrap (↑at' + ↑n) = (m : Int) := by rw [IntWalk.i64_in _ (by omega)]; omega
  have w4 : (at' : Int) + (n : Int) = (m : Int) := by omega
  have w3 : decide ((k : Int) - (at' : Int) < (n : Int)) = false := decide_eq_false (by omega)
  have hsl := slR a k c at' m n hm (by omega) hcap
  have HK := hide hk
  have HM := hide hm
  clear h hk hG hm
  go_enter Tryz.func89, Tryz.ntmps89
  go_upto_region 1 with fail
  go_quiet (fail)
  go_upto_region 5 with fail
  obtain ⟨W5, e5⟩ : ∃ X, X = (w.drewN nq).setCell ⟨R, 2, none⟩ (.int .i64 (m : Int)) := ⟨_, rfl⟩
  rw [← e5]
  have HW5 := HW.out nq
  rw [← e5] at HW5
  have c1' : W5.cell? ⟨R, 1, none⟩ = some (.slice a k c) := by rw [HW5.1.cell.cell, HK.out]; rfl
  have c2' : W5.cell? ⟨R, 2, none⟩ = some (.int .i64 (m : Int)) := by rw [HW5.1.cell.cell, HM.out]; rfl
  have HR5 := hide HW5.1
  have HF5 := hide HW5.2
  clear e5 HW5 c1 c2 f2 w1 w2 w3 w4
  go_still_tail 11, (by kernel_rfl)
  go_wp2_with fail
  refine (HG.out _ (RSt_drew HR5.out) (Fr.drew HF5.out)).mono ?_
  rintro (v | ch | _) w1 hq
  · have HQ := hide hq
    clear hq
    go_wp2_with fail
    exact HQ.out
  · exact ⟨rfl, hq⟩
  · exact absurd hq (hno _)
end WirH
end Go.Proofs.YtpambhlhkmkagaaGreatDoor

namespace Go.Proofs.YtpambhlhkmkagaaGreatDoor
namespace WirI
open Go.RowKit
open BlkM WirM WirS WirA WirB WirG WirH

set_option maxRecDepth 8000 in
theorem halted_any (w : World) (R : Nat) (a : Option Addr) (c : Nat) (bs : List Int) (at' : Nat) (fe fa code fr : Int) (h : RSt w R a c bs at' fe fa) :
    Calls Tryz.prog 86 #[.pointer (some ⟨R, 0, none⟩), .int .i64 fr, .iface 140 (.agg #[.int .i64 code])] w fun e w' => e = .returned (.tuple #[]) ∧ RSt w' R a c bs at' code fr ∧ Fr (Xr R) w w' := by
  have c3 : w.cell? ⟨R, 3, none⟩ = some (.int .i64 fe) := by rw [h.cell.cell]; rfl
  have c4 : w.cell? ⟨R, 4, none⟩ = some (.int .i64 fa) := by rw [h.cell.cell]; rfl
  have f3 : w.frozen? ⟨R, 3, none⟩ = false := h.cell.frozen 3
  have f4 : w.frozen? ⟨R, 4, none⟩ = false := h.cell.frozen 4
  have HF := hide (show Fr (Xr R) w ((w.setCell ⟨R, 3, none⟩ (.int .i64 code)).setCell ⟨R, 4, none⟩ (.int .i64 fr)) from ((Fr.refl (Xr R) w).setCell R 3 _ (fun _ => rfl)).setCell R 4 _ (fun _ => rfl))
  have HR := hide (show RSt ((w.setCell ⟨R, 3, none⟩ (.int .i64 code)).setCell ⟨R, 4, none⟩ (.int .i64 fr)) R a c bs at' code fr from
    ⟨(h.cell.setCell 3 _).setCell 4 _, h.bin.fr (X := Xr R) HF.out (fun k hk hx => h.off (by rw [hk, hx])), h.off, fun k hk => by simpa using h.olt k hk, h.le, h.small, h.bytes⟩)
  have hta : ∀ W : World, (Instr.typeAssert (.iface 140 (.agg #[.int .i64 code])) 20 140 false).run Tryz.prog W = .ok (.agg #[.int .i64 code]) W := fun W => by kernel_rfl
  have hfd : ∀ W : World, (Instr.field 140 (.agg #[.int .i64 code]) 0).run Tryz.prog W = .ok (.int .i64 code) W := fun W => by kernel_rfl
  clear h
  go_enter Tryz.func86, Tryz.ntmps86
  go_wp2
  first | go_end0 | refine bodyPost_ret (results_none rfl _ _ _) rfl ?_
  exact ⟨rfl, HR.out, HF.out⟩
/-- What an element is: an error, or what holds of its value, and the place behind it. -/
abbrev Out := Sum Int ((Value → World → Prop) × Nat)
def ElemPost (W : World) (R : Nat) (a : Option Addr) (c : Nat) (bs : List Int) (out : Out) (e : Ending) (w' : World) : Prop :=
  match out with
  | .inl code => Bad W R a c bs code e w'
  | .inr x => ∃ v, e = .returned v ∧ x.1 v w' ∧ RSt w' R a c bs x.2 0 0 ∧ Fr (Xr R) W w'
def ReadPost (w : World) (R : Nat) (a : Option Addr) (c : Nat) (bs : List Int) (at' : Nat) (zero : Value) (out : Out) (e : Ending) (w' : World) : Prop :=
  match out with
  | .inl code => e = .returned zero ∧ (∃ p, RSt w' R a c bs p code at') ∧ Fr (Xr R) w w'
  | .inr x => ∃ v, e = .returned v ∧ x.1 v w' ∧ RSt w' R a c bs x.2 0 0 ∧ Fr (Xr R) w w'
def hp2 (c : Int) : List PanicEntry := [{ v := .iface 140 (.agg #[.int .i64 c]), recovered := true }]
theorem idle_int (p q : Addr) (w : World) :
    CallsD Tryz.prog 85 #[.pointer (some p), .pointer (some q)] .returning w fun e u' w' => e = .returned (.tuple #[]) ∧ u' = .returning ∧ w' = w := by
  refine callsD_of_wpS Tryz.func85 rfl fun c₀ cs hu => ?_
  apply wpS_seq
  apply wpS_region
  simp [wpOpsS, go_sem, recoverD, hu, Tryz.ntmps85, Exit.thenS]
  refine wpS_of_wp ?_
  go_wp2
  cases c₀
  simp_all [bodyPostS, results, Tryz.results85]
set_option maxRecDepth 8000 in
set_option maxHeartbeats 1000000 in
theorem catch_int (p q : Nat) (w : World) (R : Nat) (a : Option Addr) (c : Nat) (bs : List Int) (at' : Nat) (fe fa code fr : Int) (h : RSt w R a c bs at' fe fa)
    (hp0 : w.cell? ⟨p, 0, none⟩ = some (.pointer (some ⟨R, 0, none⟩))) (hq0 : w.cell? ⟨q, 0, none⟩ = some (.int .i64 fr)) :
    CallsD Tryz.prog 85 #[.pointer (some ⟨p, 0, none⟩), .pointer (some ⟨q, 0, none⟩)] (.panicking (hp code)) w fun e u' w' => e = .returned (.tuple #[]) ∧ u' = .panicking (hp2 code) ∧ RSt w' R a c bs at' code fr ∧ Fr (Xr R) w w' := by
  have H := hide (halted_any w R a c bs at' fe fa code fr h)
  clear h
  refine callsD_of_wpS Tryz.func85 rfl fun c₀ cs hu => ?_
  apply wpS_seq
  apply wpS_region
  simp [wpOpsS, go_sem, recoverD, hu, hp, Tryz.ntmps85, Exit.thenS]
  refine wpS_of_wp ?_
  go_wp2_with ((go_at_call 86; refine (H.out).mono ?_; rintro e w1 ⟨rfl, h2⟩; have HH := hide h2; clear h2))
  exact ⟨rfl, _, rfl, _, by simp [results, Tryz.results85], rfl, rfl, HH.out⟩
theorem read_fault_int (w : World) (R : Nat) (a : Option Addr) (c : Nat) (bs : List Int) (at' : Nat) (fe fa : Int) (fv : Value) (h : RSt w R a c bs at' fe fa) (he : fe ≠ 0) : Calls Tryz.prog 63 #[.pointer (some ⟨R, 0, none⟩), fv] w fun e w' => e = .returned (.int .i64 0) ∧ Below w.heap.size w w' := by
  have H := hide (fun W (hb : Below w.heap.size w W) => reads_any W R a c bs at' fe fa (h.below hb))
  have e0 : (fe == 0) = false := by simpa using he
  have hb := hide (show Below w.heap.size w (w.alloc (.cells #[.pointer (some ⟨R, 0, none⟩)] 74)) from Below.alloc (Below.refl _ _) (Nat.le_refl _) _)
  rw [e0] at H
  clear h he e0
  go_enter_defers Tryz.func63, Tryz.ntmps63
  go_wp2_with ((go_at_call 84; refine (H.out _ hb.out).mono ?_; rintro e w1 ⟨rfl, rfl⟩))
  exact ⟨_, results_tmp rfl _ _ _, rfl, hb.out⟩
set_option maxRecDepth 8000 in
set_option maxHeartbeats 1000000 in
theorem read_int (w : World) (R : Nat) (a : Option Addr) (c : Nat) (bs : List Int) (at' : Nat) (X : Value) (out : Out) (h : RSt w R a c bs at' 0 0)
    (hG : ∀ W, Below w.heap.size w W → RSt W R a c bs at' 0 0 → Calls Tryz.prog 64 #[X] W (ElemPost W R a c bs out)) :
    Calls Tryz.prog 63 #[.pointer (some ⟨R, 0, none⟩), .func (.func 64) #[X] #[]] w (ReadPost w R a c bs at' (.int .i64 0) out) := by
  have hlt := h.lt
  have H := hide (fun W (hb : Below w.heap.size w W) => reads_any W R a c bs at' 0 0 (h.below hb))
  have hb := hide (show Below w.heap.size w (w.alloc (.cells #[.pointer (some ⟨R, 0, none⟩)] 74)) from Below.alloc (Below.refl _ _) (Nat.le_refl _) _)
  have c2 : w.cell? ⟨R, 2, none⟩ = some (.int .i64 (at' : Int)) := by rw [h.cell.cell]; rfl
  obtain ⟨W4, e4⟩ : ∃ X, X = (w.alloc (.cells #[.pointer (some ⟨R, 0, none⟩)] 74)).alloc (.cells #[.int .i64 (at' : Int)] 3) := ⟨_, rfl⟩
  have hb4 : Below w.heap.size w W4 := by rw [e4]; exact Below.alloc (Below.alloc (Below.refl _ _) (Nat.le_refl _) _) (by simp) _
  have hA1 : At W4 w.heap.size 74 [.pointer (some ⟨R, 0, none⟩)] := by rw [e4]; exact At.alloc (At.new w _ [_]) _
  have hA2 : At W4 (w.heap.size + 1) 3 [.int .i64 (at' : Int)] := by
    rw [e4]
    have := At.new (w.alloc (.cells #[.pointer (some ⟨R, 0, none⟩)] 74)) 3 [.int .i64 (at' : Int)]
    rw [World.size_alloc] at this
    exact this
  have hmf : ∀ (fn : Fn) (first cap : Array Value) (w : World), (Instr.makeFunc fn first cap).run Tryz.prog w = .ok (.func fn first cap) w := fun _ _ _ _ => rfl
  have C := hide (hG W4 hb4 (h.below hb4))
  have E4 := hide e4
  have HB4 := hide hb4
  have HA1 := hide hA1
  have HA2 := hide hA2
  clear hG h e4 hb4 hA1 hA2
  go_enter_defers Tryz.func63, Tryz.ntmps63
  go_upto_region 5 with ((go_at_call 84; refine (H.out _ hb.out).mono ?_; rintro e w1 ⟨rfl, rfl⟩))
  rw [← E4.out]
  cases out with
  | inl code =>
    go_wp2_with ((go_at_call 64; refine (C.out).mono ?_; rintro e w1 ⟨rfl, ⟨p, hr⟩, hf⟩))
    have k1 : w1.cell? ⟨w.heap.size, 0, none⟩ = some (.pointer (some ⟨R, 0, none⟩)) := (hf.cell (p := ⟨w.heap.size, 0, none⟩) HA1.out.lt (fun h => by have : w.heap.size = R := h; omega)).trans (HA1.out.cell 0)
    have k2 : w1.cell? ⟨w.heap.size + 1, 0, none⟩ = some (.int .i64 (at' : Int)) := (hf.cell (p := ⟨w.heap.size + 1, 0, none⟩) HA2.out.lt (fun h => by have : w.heap.size + 1 = R := h; omega)).trans (HA2.out.cell 0)
    refine leaves_cons (f := 85) (args := #[.pointer (some ⟨w.heap.size, 0, none⟩), .pointer (some ⟨w.heap.size + 1, 0, none⟩)]) (by simp) (by simp [go_sem]) ?_
    refine (catch_int w.heap.size (w.heap.size + 1) w1 R a c bs p 0 0 code at' hr k1 k2).mono ?_
    rintro e u' w'' ⟨rfl, rfl, hR, hF⟩
    exact ⟨_, results_tmp rfl _ _ _, rfl, ⟨p, hR⟩, ((Fr.of_below HB4.out).trans hf).trans hF⟩
  | inr x =>
    go_wp2_with ((go_at_call 64; refine (C.out).mono ?_; rintro e w1 ⟨v, rfl, hv, hr, hf⟩))
    refine leaves_cons (f := 85) (args := #[.pointer (some ⟨w.heap.size, 0, none⟩), .pointer (some ⟨w.heap.size + 1, 0, none⟩)]) (by simp) (by simp [go_sem]) ?_
    refine (idle_int _ _ w1).mono ?_
    rintro e u' w'' ⟨rfl, rfl, rfl⟩
    exact ⟨_, results_tmp rfl _ _ _, v, rfl, hv, hr, (Fr.of_below HB4.out).trans hf⟩
end WirI
end Go.Proofs.YtpambhlhkmkagaaGreatDoor

namespace Go.Proofs.YtpambhlhkmkagaaGreatDoor
namespace WirJ
open Go.RowKit
open BlkM WirM WirS WirA WirB WirE WirF WirG WirH WirI

def outOf {α : Type} (f : α → Value) : Sum Int (α × Nat) → Out
  | .inl c => .inl c
  | .inr x => .inr (fun v _ => v = f x.1, x.2)
/-- The number at a place. -/
def numO (bs : List Int) (at' : Nat) : Sum Int (Int × Nat) :=
  if bs.length < at' + 1 then .inl 6 else
  if 8 < bs.getD at' 0 then .inl 5 else
  if bs.length < at' + 1 + (bs.getD at' 0).toNat then .inl 6 else
  if badN ((bs.drop (at' + 1)).take (bs.getD at' 0).toNat) then .inl 5 else
  .inr (vL ((bs.drop (at' + 1)).take (bs.getD at' 0).toNat), at' + 1 + (bs.getD at' 0).toNat)
theorem one_at (bs : List Int) (at' : Nat) (h : at' + 1 ≤ bs.length) : (bs.drop at').take 1 = [bs.getD at' 0] := by
  have hl : at' < bs.length := by omega
  rw [List.drop_eq_getElem_cons hl, List.take_succ_cons, List.take_zero]
  simp [List.getD, hl]
theorem byte_at {bs : List Int} (h : ∀ x ∈ bs, 0 ≤ x ∧ x < 256) (at' : Nat) : 0 ≤ bs.getD at' 0 ∧ bs.getD at' 0 < 256 := by
  by_cases hl : at' < bs.length
  · have := h bs[at'] (List.getElem_mem hl)
    simpa [List.getD, hl] using this
  · simp [List.getD, Nat.le_of_not_lt hl]
theorem take_word_ok (w : World) (R : Nat) (a : Option Addr) (c : Nat) (bs : List Int) (at' n : Nat) (h : RSt w R a c bs at' 0 0) (hn : at' + n ≤ bs.length) (h8 : n ≤ 8) :
    Calls Tryz.prog 87 #[.pointer (some ⟨R, 0, none⟩), .int .i64 (n : Int), .func (.func 88) #[] #[]] w (Got w R a c bs (.int .u64 (vL ((bs.drop at').take n))) (at' + n)) :=
  take_word w R a c bs at' n h hn _ (fun _ h => by cases h.1) fun W hR hF =>
    (word_any W (sa a c at') n (c - at') _ (bin_sub hR.bin at' n hn) (sub_rng hR.bytes at' n) (by simp; omega)).mono fun e w' ⟨h1, h2⟩ => by subst h2; exact ⟨h1, hR, hF⟩
theorem take_nat_ok (w : World) (R : Nat) (a : Option Addr) (c : Nat) (bs : List Int) (at' n : Nat) (h : RSt w R a c bs at' 0 0) (hn : at' + n ≤ bs.length) (h8 : n ≤ 8) (hb : ¬ badN ((bs.drop at').take n)) :
    Calls Tryz.prog 89 #[.pointer (some ⟨R, 0, none⟩), .int .i64 (n : Int), .func (.func 90) #[] #[]] w (Got w R a c bs (.int .i64 (vL ((bs.drop at').take n))) (at' + n)) :=
  take_natural w R a c bs at' n h hn _ (fun _ h => by cases h.1) fun W hR hF =>
    (natural_ok W (sa a c at') n (c - at') _ (bin_sub hR.bin at' n hn) (sub_rng hR.bytes at' n) (by simp; omega) hb).mono fun e w' ⟨h1, h2⟩ => by subst h2; exact ⟨h1, hR, hF⟩
theorem take_nat_bad (w : World) (R : Nat) (a : Option Addr) (c : Nat) (bs : List Int) (at' n : Nat) (h : RSt w R a c bs at' 0 0) (hn : at' + n ≤ bs.length) (h8 : n ≤ 8) (hb : badN ((bs.drop at').take n)) :
    Calls Tryz.prog 89 #[.pointer (some ⟨R, 0, none⟩), .int .i64 (n : Int), .func (.func 90) #[] #[]] w (Bad w R a c bs 5) :=
  take_natural w R a c bs at' n h hn _ (fun _ h => by cases h.1) fun W hR hF =>
    (natural_bad W (sa a c at') n (c - at') _ (bin_sub hR.bin at' n hn) (sub_rng hR.bytes at' n) (by simp; omega) hb).mono fun e w' ⟨h1, h2⟩ => by subst h2; exact ⟨h1, ⟨_, hR⟩, hF⟩
set_option maxHeartbeats 2000000 in
theorem takeNumber_any (w : World) (R : Nat) (a : Option Addr) (c : Nat) (bs : List Int) (at' : Nat) (h : RSt w R a c bs at' 0 0) :
    Calls Tryz.prog 64 #[.pointer (some ⟨R, 0, none⟩)] w (ElemPost w R a c bs (outOf (Value.int .i64) (numO bs at'))) := by
  have hB := byte_at h.bytes at'
  by_cases h1 : bs.length < at' + 1
  · have H := hide (show Calls _ _ #[_, .int .i64 1, _] _ _ from take_short_word w R a c bs at' 1 (.func (.func 88) #[] #[]) h (by omega) h1)
    rw [show numO bs at' = .inl 6 by unfold numO; rw [if_pos h1]]
    clear h hB h1
    go_enter Tryz.func64, Tryz.ntmps64
    go_wp2_with ((go_at_call 87; refine (H.out).mono ?_; rintro e w1 ⟨rfl, h2⟩))
    exact ⟨rfl, rfl, h2⟩
  · have H := hide (show Calls _ _ #[_, .int .i64 1, _] _ _ from take_word_ok w R a c bs at' 1 h (by omega) (by omega))
    rw [one_at bs at' (by omega), show vL [bs.getD at' 0] = bs.getD at' 0 by simp [vL]] at H
    obtain ⟨k, hk⟩ := Int.eq_ofNat_of_zero_le hB.1
    by_cases h2 : 8 < bs.getD at' 0
    · rw [show numO bs at' = .inl 5 by unfold numO; rw [if_neg h1, if_pos h2]]
      generalize bs.getD at' 0 = x at H hB h2
      clear h hk h1
      obtain ⟨hx0, hx1⟩ := hB
      go_enter Tryz.func64, Tryz.ntmps64
      go_wp2_with ((go_at_call 87; refine (H.out).mono ?_; rintro e w1 ⟨rfl, h3, h4⟩; have HR := hide h3; clear h3))
      exact ⟨rfl, rfl, ⟨_, HR.out⟩, h4⟩
    · have hk8 : k ≤ 8 := by omega
      have hkn : (bs.getD at' 0).toNat = k := by rw [hk]; rfl
      have hnum : numO bs at' = if bs.length < at' + 1 + k then .inl 6 else if badN ((bs.drop (at' + 1)).take k) then .inl 5 else .inr (vL ((bs.drop (at' + 1)).take k), at' + 1 + k) := by
        unfold numO
        rw [if_neg h1, if_neg h2, hkn]
      rw [hnum]
      rw [hk] at H
      by_cases h3 : bs.length < at' + 1 + k
      · rw [if_pos h3]
        have H2 := hide (fun W (hR : RSt W R a c bs (at' + 1) 0 0) => take_short_natural W R a c bs (at' + 1) k (.func (.func 90) #[] #[]) hR (by omega) h3)
        clear h hB hk h1 h2 hkn hnum h3
        go_enter Tryz.func64, Tryz.ntmps64
        go_wp2_with (first | ((go_at_call 87; refine (H.out).mono ?_; rintro e w1 ⟨rfl, h3, h4⟩; have HR := hide h3; clear h3)) | ((go_at_call 89; refine (H2.out _ HR.out).mono ?_; rintro e w2 ⟨rfl, h5, h6⟩)))
        exact ⟨rfl, rfl, h5, h4.trans h6⟩
      · rw [if_neg h3]
        by_cases h4 : badN ((bs.drop (at' + 1)).take k)
        · rw [if_pos h4]
          have H2 := hide (fun W (hR : RSt W R a c bs (at' + 1) 0 0) => take_nat_bad W R a c bs (at' + 1) k hR (by omega) hk8 h4)
          clear h hB hk h1 h2 hkn hnum h3 h4
          go_enter Tryz.func64, Tryz.ntmps64
          go_wp2_with (first | ((go_at_call 87; refine (H.out).mono ?_; rintro e w1 ⟨rfl, h3, h4⟩; have HR := hide h3; clear h3)) | ((go_at_call 89; refine (H2.out _ HR.out).mono ?_; rintro e w2 ⟨rfl, h5, h6⟩)))
          exact ⟨rfl, rfl, h5, h4.trans h6⟩
        · rw [if_neg h4]
          have H2 := hide (fun W (hR : RSt W R a c bs (at' + 1) 0 0) => take_nat_ok W R a c bs (at' + 1) k hR (by omega) hk8 h4)
          clear h hB hk h1 h2 hkn hnum h3 h4
          generalize vL ((bs.drop (at' + 1)).take k) = y at H2 ⊢
          go_enter Tryz.func64, Tryz.ntmps64
          go_wp2_with (first | ((go_at_call 87; refine (H.out).mono ?_; rintro e w1 ⟨rfl, h3, h4⟩; have HR := hide h3; clear h3)) | ((go_at_call 89; refine (H2.out _ HR.out).mono ?_; rintro e w2 ⟨rfl, h5, h6⟩; have HR2 := hide h5; clear h5)))
          go_ret
          exact ⟨_, rfl, rfl, HR2.out, h4.trans h6⟩
/-! ### what is read: a word, a bool, a text, bytes -/
/-- The text that bytes are. -/
def st (zs : List Int) : ByteArray := strOfNums zs
theorem conv_any (w : World) (a : Option Addr) (n c : Nat) (zs : List Int) (h : BIn w (.slice a n c) zs) : (convert 35 9 (.slice a n c)).run Tryz.prog w = .ok (.string (st zs)) w := by
  obtain ⟨a', c', e1, _, hz⟩ := h
  obtain ⟨rfl, rfl, rfl⟩ : a = a' ∧ n = zs.length ∧ c = c' := by cases e1; exact ⟨rfl, rfl, rfl⟩
  by_cases hne : zs = []
  · subst hne
    cases a with
    | none => exact run_convert_bytes_nil w _ _ Tryz.underlying35 Tryz.underlying5 _ _ _ Tryz.underlying9
    | some ad =>
      rw [run_convert_bytes_string w _ _ _ _ _ _ Tryz.underlying35 Tryz.underlying5 Tryz.underlying9]
      exact run_bytesToString w ad 0 c [] (by simp [loadCells, loadCellsFrom])
  · obtain ⟨B, o, rfl, _, hc⟩ := hz hne
    exact run_convert_bytes_arg w _ _ Tryz.underlying35 Tryz.underlying5 B o _ c zs rfl hc _ Tryz.underlying9
end WirJ
end Go.Proofs.YtpambhlhkmkagaaGreatDoor

namespace Go.Proofs.YtpambhlhkmkagaaGreatDoor
namespace WirK
open Go.RowKit
open BlkM WirM WirS WirA WirB WirE WirF WirG WirH WirI WirJ

theorem numO_ok {bs : List Int} {at' : Nat} (hb : ∀ x ∈ bs, 0 ≤ x ∧ x < 256) {x : Int × Nat} (h : numO bs at' = .inr x) : 0 ≤ x.1 ∧ x.1 ≤ 9223372036854775807 ∧ at' < x.2 ∧ x.2 ≤ bs.length := by
  unfold numO at h
  split at h
  · cases h
  split at h
  · cases h
  split at h
  · cases h
  split at h
  · cases h
  rename_i h1 h2 h3 h4
  cases h
  have := vL_lt _ (sub_rng hb (at' + 1) (bs.getD at' 0).toNat)
  refine ⟨this.1, ?_, ?_, ?_⟩
  · simp only [badN, not_or] at h4
    omega
  · show at' < at' + 1 + (bs.getD at' 0).toNat
    omega
  · show at' + 1 + (bs.getD at' 0).toNat ≤ bs.length
    omega
/-! ### The calls -/
theorem ReadPost.pre {w w1 : World} {R : Nat} {a : Option Addr} {c : Nat} {bs : List Int} {at' : Nat} {zero : Value} {out : Out} {e : Ending} {w' : World} (hb : Below w.heap.size w w1) (h : ReadPost w1 R a c bs at' zero out e w') : ReadPost w R a c bs at' zero out e w' := by
  cases out with
  | inl code => exact ⟨h.1, h.2.1, (Fr.of_below hb).trans h.2.2⟩
  | inr x =>
    obtain ⟨v, h1, h2, h3, h4⟩ := h
    exact ⟨v, h1, h2, h3, (Fr.of_below hb).trans h4⟩
theorem Below.box {w W : World} {o : Obj} (h : Below (w.alloc o).heap.size (w.alloc o) W) : Below w.heap.size w W := (Below.alloc (Below.refl _ _) (Nat.le_refl _) o).trans (h.mono (by simp))
end WirK
end Go.Proofs.YtpambhlhkmkagaaGreatDoor

namespace Go.Proofs.YtpambhlhkmkagaaGreatDoor
namespace WirL
open Go.RowKit
open BlkM WirM WirS WirA WirB WirE WirF WirG WirH WirI WirJ WirK

theorem num_fault (w : World) (R : Nat) (a : Option Addr) (c : Nat) (bs : List Int) (at' : Nat) (fe fa : Int) (h : RSt w R a c bs at' fe fa) (he : fe ≠ 0) : Calls Tryz.prog 40 #[.pointer (some ⟨R, 0, none⟩)] w fun e w' => e = .returned (.int .i64 0) ∧ Below w.heap.size w w' := by
  have H := hide (fun fv => read_fault_int w R a c bs at' fe fa fv h he)
  have hmf : ∀ (fn : Fn) (first cap : Array Value) (w : World), (Instr.makeFunc fn first cap).run Tryz.prog w = .ok (.func fn first cap) w := fun _ _ _ _ => rfl
  clear h he
  go_enter Tryz.func40, Tryz.ntmps40
  go_wp2_with ((go_at_call 63; refine (H.out _).mono ?_; rintro e w1 ⟨rfl, h2⟩; have HB := hide h2; clear h2))
  go_ret
  exact ⟨rfl, HB.out⟩
theorem num_read (w : World) (R : Nat) (a : Option Addr) (c : Nat) (bs : List Int) (at' : Nat) (h : RSt w R a c bs at' 0 0) : Calls Tryz.prog 40 #[.pointer (some ⟨R, 0, none⟩)] w (ReadPost w R a c bs at' (.int .i64 0) (outOf (Value.int .i64) (numO bs at'))) := by
  have H := hide (read_int w R a c bs at' (.pointer (some ⟨R, 0, none⟩)) (outOf (Value.int .i64) (numO bs at')) h (fun W _ hR => takeNumber_any W R a c bs at' hR))
  have hmf : ∀ (fn : Fn) (first cap : Array Value) (w : World), (Instr.makeFunc fn first cap).run Tryz.prog w = .ok (.func fn first cap) w := fun _ _ _ _ => rfl
  generalize hO : outOf (Value.int .i64) (numO bs at') = O at H ⊢
  clear h
  cases O with
  | inl code =>
    clear hO
    go_enter Tryz.func40, Tryz.ntmps40
    go_wp2_with ((go_at_call 63; refine (H.out).mono ?_; rintro e w1 ⟨rfl, h2⟩; have HH := hide h2; clear h2))
    go_ret
    exact ⟨rfl, HH.out⟩
  | inr x =>
    clear hO
    go_enter Tryz.func40, Tryz.ntmps40
    go_wp2_with ((go_at_call 63; refine (H.out).mono ?_; rintro e w1 ⟨v, rfl, h2⟩; have HH := hide h2; clear h2))
    first | exact ⟨_, rfl, HH.out⟩ | (go_ret; exact ⟨_, rfl, HH.out⟩)
/-- The world behind two boxes. -/
def W2 (w : World) (p : Value) (most : Int) : World := (w.alloc (.cells #[p] 74)).alloc (.cells #[.int .i64 most] 3)
theorem W2_below (w : World) (p : Value) (most : Int) : Below w.heap.size w (W2 w p most) := Below.alloc (Below.alloc (Below.refl _ _) (Nat.le_refl _) _) (by simp) _
theorem Below.two {w W : World} {p : Value} {most : Int} (h : Below (W2 w p most).heap.size (W2 w p most) W) : Below w.heap.size w W := (W2_below w p most).trans (h.mono (W2_below w p most).size)
/-! ### Rest, End, NewReader -/
def restN (bs : List Int) (at' : Nat) (fe : Int) : Int := if fe = 0 then (bs.length : Int) - (at' : Int) else 0
theorem rest_any (w : World) (R : Nat) (a : Option Addr) (c : Nat) (bs : List Int) (at' : Nat) (fe fa : Int) (h : RSt w R a c bs at' fe fa) : Calls Tryz.prog 70 #[.pointer (some ⟨R, 0, none⟩)] w fun e w' => e = .returned (.int .i64 (restN bs at' fe)) ∧ ∃ q, w' = w.drewN q := by
  have H := hide (reads_any w R a c bs at' fe fa h)
  by_cases he : fe = 0
  · subst he
    rw [show restN bs at' 0 = (bs.length : Int) - (at' : Int) from rfl]
    have c1 : w.cell? ⟨R, 1, none⟩ = some (.slice a bs.length c) := by rw [h.cell.cell]; rfl
    have c2 : w.cell? ⟨R, 2, none⟩ = some (.int .i64 (at' : Int)) := by rw [h.cell.cell]; rfl
    have hle := h.le
    have hsm := h.small
    obtain ⟨k, hk⟩ : ∃ k, k = bs.length := ⟨_, rfl⟩
    rw [← hk] at c1 hle hsm ⊢
    have w1 : IntKind.i64.wrap (↑k - ↑at') = (k : Int) - (at' : Int) := IntWalk.i64_in _ (by omega)
    clear h hk
    go_enter Tryz.func70, Tryz.ntmps70
    go_upto_region 3 with ((go_at_call 84; refine (H.out).mono ?_; rintro e w1 ⟨rfl, rfl⟩))
    go_quiet (fail)
    go_wp2_with fail
    go_ret
    exact ⟨rfl, _, rfl⟩
  · rw [show restN bs at' fe = 0 by unfold restN; rw [if_neg he]]
    have e0 : (fe == 0) = false := by simpa using he
    rw [e0] at H
    clear h he e0
    go_enter Tryz.func70, Tryz.ntmps70
    go_wp2_with ((go_at_call 84; refine (H.out).mono ?_; rintro e w1 ⟨rfl, rfl⟩))
    go_ret
    exact ⟨rfl, 0, rfl⟩
end WirL
end Go.Proofs.YtpambhlhkmkagaaGreatDoor

