/-
  The program's reader: natural, truth, takes.
-/
import Derived.Test.YtplinpbmncccoaaWirG
namespace Go.Proofs.Ytplinpbmncccoaa
namespace WirH
open Go.RowKit
open BlkM WirM WirS WirA WirB WirG

/-- The panic that ends an element. -/
def hp (c : Int) : List PanicEntry := [{ v := .iface 208 (.agg #[.int .i64 c]), recovered := false }]
def badN (zs : List Int) : Prop := (zs ≠ [] ∧ zs.getD 0 0 = 0) ∨ 9223372036854775807 < vL zs
instance (zs : List Int) : Decidable (badN zs) := by unfold badN; exact inferInstance
set_option maxHeartbeats 1000000 in
theorem natural_bad (w : World) (a : Option Addr) (n c : Nat) (zs : List Int) (h : BIn w (.slice a n c) zs) (hr : ∀ x ∈ zs, 0 ≤ x ∧ x < 256) (h8 : zs.length ≤ 8) (hb : badN zs) :
    Calls Try.prog 186 #[.slice a n c] w fun e w' => e = .panicked (hp 5) ∧ w = w' := by
  have H := hide (word_any w a n c zs h hr h8)
  obtain ⟨a', c', e1, _, hz⟩ := h
  obtain ⟨rfl, rfl, rfl⟩ : a = a' ∧ n = zs.length ∧ c = c' := by cases e1; exact ⟨rfl, rfl, rfl⟩
  have hv := vL_lt zs hr
  by_cases hne : zs = []
  · subst hne
    rcases hb with ⟨h, _⟩ | h
    · exact absurd rfl h
    · simp [vL] at h
  · obtain ⟨B, o, rfl, _, hc⟩ := hz hne
    have hpos : 0 < zs.length := List.length_pos_iff.2 hne
    have hc0 := hc 0 hpos
    rw [Nat.add_zero] at hc0
    have hb' : zs.getD 0 0 = 0 ∨ (¬ zs.getD 0 0 = 0 ∧ 9223372036854775807 < vL zs) := by
      by_cases h0 : zs.getD 0 0 = 0
      · exact .inl h0
      · exact .inr ⟨h0, hb.elim (fun h => absurd h.2 h0) id⟩
    obtain ⟨k, hk⟩ : ∃ k, k = zs.length := ⟨_, rfl⟩
    generalize zs.getD 0 0 = x at hc0 hb'
    generalize vL zs = m at H hv hb'
    rw [← hk] at hpos H ⊢
    clear hc hb hk e1 hz
    rcases hb' with rfl | ⟨h0, h1⟩
    · go_enter Try.func186, Try.ntmps186
      go_wp2_with ((go_at_call 138; refine (H.out).mono ?_; rintro e w1 ⟨rfl, rfl⟩))
      exact ⟨rfl, rfl, rfl⟩
    · have e0 : (x == 0) = false := by simpa using h0
      go_enter Try.func186, Try.ntmps186
      go_wp2_with ((go_at_call 138; refine (H.out).mono ?_; rintro e w1 ⟨rfl, rfl⟩))
      exact ⟨rfl, rfl, rfl⟩
set_option maxHeartbeats 1000000 in
theorem natural_ok (w : World) (a : Option Addr) (n c : Nat) (zs : List Int) (h : BIn w (.slice a n c) zs) (hr : ∀ x ∈ zs, 0 ≤ x ∧ x < 256) (h8 : zs.length ≤ 8) (hb : ¬ badN zs) :
    Calls Try.prog 186 #[.slice a n c] w fun e w' => e = .returned (.int .i64 (vL zs)) ∧ w = w' := by
  have H := hide (word_any w a n c zs h hr h8)
  obtain ⟨a', c', e1, _, hz⟩ := h
  obtain ⟨rfl, rfl, rfl⟩ : a = a' ∧ n = zs.length ∧ c = c' := by cases e1; exact ⟨rfl, rfl, rfl⟩
  have hv := (vL_lt zs hr).1
  have hv2 : ¬ 9223372036854775807 < vL zs := fun h => hb (.inr h)
  by_cases hne : zs = []
  · subst hne
    have HV := hide (show vL [] = 0 from rfl)
    generalize vL [] = m at H hv hv2 HV ⊢
    clear hz e1 hb
    have hv3 : m ≤ 9223372036854775807 := by omega
    go_enter Try.func186, Try.ntmps186
    go_wp2_with ((go_at_call 138; refine (H.out).mono ?_; rintro e w1 ⟨rfl, rfl⟩))
    go_ret
    exact ⟨rfl, rfl⟩
  · obtain ⟨B, o, rfl, _, hc⟩ := hz hne
    have hpos : 0 < zs.length := List.length_pos_iff.2 hne
    have hc0 := hc 0 hpos
    rw [Nat.add_zero] at hc0
    have h0 : ¬ zs.getD 0 0 = 0 := fun h => hb (.inl ⟨hne, h⟩)
    obtain ⟨k, hk⟩ : ∃ k, k = zs.length := ⟨_, rfl⟩
    generalize zs.getD 0 0 = x at hc0 h0
    generalize vL zs = m at H hv hv2 ⊢
    rw [← hk] at hpos H ⊢
    have e0 : (x == 0) = false := by simpa using h0
    have hv3 : m ≤ 9223372036854775807 := by omega
    clear hc hb hk e1 hz
    go_enter Try.func186, Try.ntmps186
    go_wp2_with ((go_at_call 138; refine (H.out).mono ?_; rintro e w1 ⟨rfl, rfl⟩))
    go_ret
    exact ⟨rfl, rfl⟩
theorem truth_bad (w : World) (a : Option Addr) (n c : Nat) (x : Int) (h : BIn w (.slice a n c) [x]) (hx : 1 < x) : Calls Try.prog 146 #[.slice a n c] w fun e w' => e = .panicked (hp 5) ∧ w = w' := by
  obtain ⟨a', c', e1, _, hz⟩ := h
  obtain ⟨rfl, rfl, rfl⟩ : a = a' ∧ n = 1 ∧ c = c' := by cases e1; exact ⟨rfl, rfl, rfl⟩
  obtain ⟨B, o, rfl, _, hc⟩ := hz (by simp)
  have hc0 : w.cell? ⟨B, o, none⟩ = some (.int .u8 x) := hc 0 (by simp)
  clear hc hz e1
  go_enter Try.func146, Try.ntmps146
  go_wp2
  exact ⟨rfl, rfl, rfl⟩
theorem truth_ok (w : World) (a : Option Addr) (n c : Nat) (x : Int) (h : BIn w (.slice a n c) [x]) (hx : ¬ 1 < x) : Calls Try.prog 146 #[.slice a n c] w fun e w' => e = .returned (.bool (x == 1)) ∧ w = w' := by
  obtain ⟨a', c', e1, _, hz⟩ := h
  obtain ⟨rfl, rfl, rfl⟩ : a = a' ∧ n = 1 ∧ c = c' := by cases e1; exact ⟨rfl, rfl, rfl⟩
  obtain ⟨B, o, rfl, _, hc⟩ := hz (by simp)
  have hc0 : w.cell? ⟨B, o, none⟩ = some (.int .u8 x) := hc 0 (by simp)
  clear hc hz e1
  go_enter Try.func146, Try.ntmps146
  go_wp2
  go_ret
  exact ⟨rfl, rfl⟩

/-! ### take -/
def Got (w : World) (R : Nat) (a : Option Addr) (c : Nat) (bs : List Int) (v : Value) (at' : Nat) (e : Ending) (w' : World) : Prop := e = .returned v ∧ RSt w' R a c bs at' 0 0 ∧ Fr (Xr R) w w'
def Bad (w : World) (R : Nat) (a : Option Addr) (c : Nat) (bs : List Int) (code : Int) (e : Ending) (w' : World) : Prop := e = .panicked (hp code) ∧ (∃ at', RSt w' R a c bs at' 0 0) ∧ Fr (Xr R) w w'
/-- Where a part of bytes begins. -/
def sa (a : Option Addr) (c at' : Nat) : Option Addr := if c = at' then a else a.map (·.add at')
theorem bin_sub {w : World} {a : Option Addr} {c : Nat} {bs : List Int} (h : BIn w (.slice a bs.length c) bs) (at' n : Nat) (hn : at' + n ≤ bs.length) : BIn w (.slice (sa a c at') n (c - at')) ((bs.drop at').take n) := by
  obtain ⟨a', c', e1, hc, hz⟩ := h
  obtain ⟨rfl, rfl⟩ : a = a' ∧ c = c' := by cases e1; exact ⟨rfl, rfl⟩
  have hl : ((bs.drop at').take n).length = n := by simp; omega
  refine ⟨_, _, by rw [hl], by rw [hl]; omega, fun hne => ?_⟩
  have hpos : 0 < n := by
    have := List.length_pos_iff.2 hne
    omega
  obtain ⟨B, o, rfl, hB, hcell⟩ := hz (by intro h; subst h; simp at hn; omega)
  have hca : ¬ c = at' := by omega
  refine ⟨B, o + at', by simp [sa, hca, Addr.add_lit], hB, fun i hi => ?_⟩
  rw [hl] at hi
  rw [Nat.add_assoc, hcell (at' + i) (by omega)]
  simp [List.getD, hi]
theorem sub_rng {bs : List Int} (h : ∀ x ∈ bs, 0 ≤ x ∧ x < 256) (at' n : Nat) : ∀ x ∈ (bs.drop at').take n, 0 ≤ x ∧ x < 256 := fun x hx => h x (List.mem_of_mem_drop (List.mem_of_mem_take hx))
theorem slR (a : Option Addr) (len cap l m n : Nat) (hm : m = l + n) (h : m ≤ len) (hc : len ≤ cap) (Y : World) : (Instr.sliceAt 32 (.slice a len cap) (some (.int .i64 (l : Int))) (some (.int .i64 (m : Int))) none).run Try.prog Y = .ok (.slice (sa a cap l) n (cap - l)) Y := by
  have hu : Try.prog.underlying 32 = some (.slice (Try.prog.elem 32)) := by kernel_rfl
  rw [run_sliceAt_slice Y 32 _ _ _ _ hu, run_slice_lh Y 32 a len cap hu .i64 .i64 (l : Int) (m : Int) (by omega) (by omega) (by omega)]
  have hs : (sizeOf (Try.prog.elem 32)).run Try.prog Y = .ok 1 Y := by kernel_rfl
  rw [hs]
  simp [sliced, sa]
  omega
theorem RSt_move {w : World} {R : Nat} {a : Option Addr} {c : Nat} {bs : List Int} {at' : Nat} {fe fa : Int} (h : RSt w R a c bs at' fe fa) (m : Nat) (hm : m ≤ bs.length) : RSt (w.setCell ⟨R, 2, none⟩ (.int .i64 (m : Int))) R a c bs m fe fa :=
  ⟨h.cell.setCell 2 _, h.bin.fr (X := fun k => k = R) ((Fr.refl _ w).setCell R 2 _ (fun _ => rfl)) (fun k hk hx => h.off (by rw [hk, hx])), h.off, fun k hk => by simpa using h.olt k hk, hm, h.small, h.bytes⟩
theorem RSt_drawn {w : World} {R : Nat} {a : Option Addr} {c : Nat} {bs : List Int} {at' : Nat} {fe fa : Int} (h : RSt w R a c bs at' fe fa) (q : Nat) : RSt (w.drewN q) R a c bs at' fe fa :=
  h.fr (X := fun _ => False) (Fr.drewN (Fr.refl _ w) q) (fun h => h) (fun _ _ h => h)
theorem RSt_drew {w : World} {R : Nat} {a : Option Addr} {c : Nat} {bs : List Int} {at' : Nat} {fe fa : Int} (h : RSt w R a c bs at' fe fa) : RSt w.drew R a c bs at' fe fa :=
  h.fr (X := fun _ => False) (Fr.drew (Fr.refl _ w)) (fun h => h) (fun _ _ h => h)
set_option maxHeartbeats 1000000 in
theorem take_short_word (w : World) (R : Nat) (a : Option Addr) (c : Nat) (bs : List Int) (at' n : Nat) (fv : Value) (h : RSt w R a c bs at' 0 0) (_hn : n ≤ 9223372036854775807) (hs : bs.length < at' + n) :
    Calls Try.prog 137 #[.pointer (some ⟨R, 0, none⟩), .int .i64 (n : Int), fv] w (Bad w R a c bs 6) := by
  have c1 : w.cell? ⟨R, 1, none⟩ = some (.slice a bs.length c) := by rw [h.cell.cell]; rfl
  have c2 : w.cell? ⟨R, 2, none⟩ = some (.int .i64 (at' : Int)) := by rw [h.cell.cell]; rfl
  have hle := h.le
  have hsm := h.small
  have HR := hide (fun q => RSt_drawn h q)
  obtain ⟨k, hk⟩ : ∃ k, k = bs.length := ⟨_, rfl⟩
  rw [← hk] at hle hsm hs c1
  have w1 : IntKind.i64.wrap (↑k - ↑at') = (k : Int) - (at' : Int) := IntWalk.i64_in _ (by omega)
  have w3 : decide ((k : Int) - (at' : Int) < (n : Int)) = true := decide_eq_true (by omega)
  clear h hk
  go_enter Try.func137, Try.ntmps137
  go_upto_region 1 with fail
  go_quiet (fail)
  go_wp2_with fail
  exact ⟨rfl, rfl, ⟨at', HR.out _⟩, Fr.drewN (Fr.refl _ w) _⟩
set_option maxRecDepth 4000 in
set_option maxHeartbeats 1000000 in
theorem take_word (w : World) (R : Nat) (a : Option Addr) (c : Nat) (bs : List Int) (at' n : Nat) (h : RSt w R a c bs at' 0 0) (hn : at' + n ≤ bs.length) (Q : Ending → World → Prop) (hno : ∀ W, ¬ Q .outgrown W)
    (hG : ∀ W, RSt W R a c bs (at' + n) 0 0 → Fr (Xr R) w W → Calls Try.prog 138 #[.slice (sa a c at') n (c - at')] W Q) :
    Calls Try.prog 137 #[.pointer (some ⟨R, 0, none⟩), .int .i64 (n : Int), .func (.func 138) #[] #[]] w Q := by
  have c1 : w.cell? ⟨R, 1, none⟩ = some (.slice a bs.length c) := by rw [h.cell.cell]; rfl
  have c2 : w.cell? ⟨R, 2, none⟩ = some (.int .i64 (at' : Int)) := by rw [h.cell.cell]; rfl
  have f2 : w.frozen? ⟨R, 2, none⟩ = false := h.cell.frozen 2
  have hle := h.le
  have hsm := h.small
  obtain ⟨m, hm⟩ : ∃ m, m = at' + n := ⟨_, rfl⟩
  have hcap : bs.length ≤ c := by obtain ⟨_, _, e1, hc, _⟩ := h.bin; cases e1; exact hc
  have HG := hide hG
  have HW := hide (fun q => show RSt ((w.drewN q).setCell ⟨R, 2, none⟩ (.int .i64 (m : Int))) R a c bs (at' + n) 0 0 ∧ Fr (Xr R) w ((w.drewN q).setCell ⟨R, 2, none⟩ (.int .i64 (m : Int))) from ⟨by rw [hm]; exact RSt_move (RSt_drawn h q) (at' + n) hn, (Fr.drewN (Fr.refl (Xr R) w) q).setCell R 2 _ (fun _ => rfl)⟩)
  obtain ⟨k, hk⟩ : ∃ k, k = bs.length := ⟨_, rfl⟩
  rw [← hk] at hle hsm hn c1 hcap
  have w1 : IntKind.i64.wrap (↑k - ↑at') = (k : Int) - (at' : Int) := IntWalk.i64_in _ (by omega)
  have w2 : IntKind.i64.wrap (↑at' + ↑n) = (m : Int) := by rw [IntWalk.i64_in _ (by omega)]; omega
  have w4 : (at' : Int) + (n : Int) = (m : Int) := by omega
  have w3 : decide ((k : Int) - (at' : Int) < (n : Int)) = false := decide_eq_false (by omega)
  have hsl := slR a k c at' m n hm (by omega) hcap
  have HK := hide hk
  have HM := hide hm
  clear h hk hG hm
  go_enter Try.func137, Try.ntmps137
  go_upto_region 1 with fail
  go_quiet (fail)
  go_upto_region 5 with fail
  obtain ⟨W5, e5⟩ : ∃ X, X = (w.drewN nq).setCell ⟨R, 2, none⟩ (.int .i64 (m : Int)) := ⟨_, rfl⟩
  rw [← e5]
  have HW5 := HW.out nq
  rw [← e5] at HW5
  have c1' : W5.cell? ⟨R, 1, none⟩ = some (.slice a k c) := by rw [HW5.1.cell.cell, HK.out]; rfl
  have c2' : W5.cell? ⟨R, 2, none⟩ = some (.int .i64 (m : Int)) := by rw [HW5.1.cell.cell, HM.out]; rfl
  have HR5 := hide HW5.1
  have HF5 := hide HW5.2
  clear e5 HW5 c1 c2 f2 w1 w2 w3 w4
  go_still_tail 11, (by kernel_rfl)
  go_wp2_with fail
  refine (HG.out _ (RSt_drew HR5.out) (Fr.drew HF5.out)).mono ?_
  rintro (v | ch | _) w1 hq
  · have HQ := hide hq
    clear hq
    go_wp2_with fail
    exact HQ.out
  · exact ⟨rfl, hq⟩
  · exact absurd hq (hno _)
set_option maxHeartbeats 1000000 in
theorem take_short_natural (w : World) (R : Nat) (a : Option Addr) (c : Nat) (bs : List Int) (at' n : Nat) (fv : Value) (h : RSt w R a c bs at' 0 0) (_hn : n ≤ 9223372036854775807) (hs : bs.length < at' + n) :
    Calls Try.prog 185 #[.pointer (some ⟨R, 0, none⟩), .int .i64 (n : Int), fv] w (Bad w R a c bs 6) := by
  have c1 : w.cell? ⟨R, 1, none⟩ = some (.slice a bs.length c) := by rw [h.cell.cell]; rfl
  have c2 : w.cell? ⟨R, 2, none⟩ = some (.int .i64 (at' : Int)) := by rw [h.cell.cell]; rfl
  have hle := h.le
  have hsm := h.small
  have HR := hide (fun q => RSt_drawn h q)
  obtain ⟨k, hk⟩ : ∃ k, k = bs.length := ⟨_, rfl⟩
  rw [← hk] at hle hsm hs c1
  have w1 : IntKind.i64.wrap (↑k - ↑at') = (k : Int) - (at' : Int) := IntWalk.i64_in _ (by omega)
  have w3 : decide ((k : Int) - (at' : Int) < (n : Int)) = true := decide_eq_true (by omega)
  clear h hk
  go_enter Try.func185, Try.ntmps185
  go_upto_region 1 with fail
  go_quiet (fail)
  go_wp2_with fail
  exact ⟨rfl, rfl, ⟨at', HR.out _⟩, Fr.drewN (Fr.refl _ w) _⟩
set_option maxRecDepth 4000 in
set_option maxHeartbeats 1000000 in
theorem take_natural (w : World) (R : Nat) (a : Option Addr) (c : Nat) (bs : List Int) (at' n : Nat) (h : RSt w R a c bs at' 0 0) (hn : at' + n ≤ bs.length) (Q : Ending → World → Prop) (hno : ∀ W, ¬ Q .outgrown W)
    (hG : ∀ W, RSt W R a c bs (at' + n) 0 0 → Fr (Xr R) w W → Calls Try.prog 186 #[.slice (sa a c at') n (c - at')] W Q) :
    Calls Try.prog 185 #[.pointer (some ⟨R, 0, none⟩), .int .i64 (n : Int), .func (.func 186) #[] #[]] w Q := by
  have c1 : w.cell? ⟨R, 1, none⟩ = some (.slice a bs.length c) := by rw [h.cell.cell]; rfl
  have c2 : w.cell? ⟨R, 2, none⟩ = some (.int .i64 (at' : Int)) := by rw [h.cell.cell]; rfl
  have f2 : w.frozen? ⟨R, 2, none⟩ = false := h.cell.frozen 2
  have hle := h.le
  have hsm := h.small
  obtain ⟨m, hm⟩ : ∃ m, m = at' + n := ⟨_, rfl⟩
  have hcap : bs.length ≤ c := by obtain ⟨_, _, e1, hc, _⟩ := h.bin; cases e1; exact hc
  have HG := hide hG
  have HW := hide (fun q => show RSt ((w.drewN q).setCell ⟨R, 2, none⟩ (.int .i64 (m : Int))) R a c bs (at' + n) 0 0 ∧ Fr (Xr R) w ((w.drewN q).setCell ⟨R, 2, none⟩ (.int .i64 (m : Int))) from ⟨by rw [hm]; exact RSt_move (RSt_drawn h q) (at' + n) hn, (Fr.drewN (Fr.refl (Xr R) w) q).setCell R 2 _ (fun _ => rfl)⟩)
  obtain ⟨k, hk⟩ : ∃ k, k = bs.length := ⟨_, rfl⟩
  rw [← hk] at hle hsm hn c1 hcap
  have w1 : IntKind.i64.wrap (↑k - ↑at') = (k : Int) - (at' : Int) := IntWalk.i64_in _ (by omega)
  have w2 : IntKind.i64.wrap (↑at' + ↑n) = (m : Int) := by rw [IntWalk.i64_in _ (by omega)]; omega
  have w4 : (at' : Int) + (n : Int) = (m : Int) := by omega
  have w3 : decide ((k : Int) - (at' : Int) < (n : Int)) = false := decide_eq_false (by omega)
  have hsl := slR a k c at' m n hm (by omega) hcap
  have HK := hide hk
  have HM := hide hm
  clear h hk hG hm
  go_enter Try.func185, Try.ntmps185
  go_upto_region 1 with fail
  go_quiet (fail)
  go_upto_region 5 with fail
  obtain ⟨W5, e5⟩ : ∃ X, X = (w.drewN nq).setCell ⟨R, 2, none⟩ (.int .i64 (m : Int)) := ⟨_, rfl⟩
  rw [← e5]
  have HW5 := HW.out nq
  rw [← e5] at HW5
  have c1' : W5.cell? ⟨R, 1, none⟩ = some (.slice a k c) := by rw [HW5.1.cell.cell, HK.out]; rfl
  have c2' : W5.cell? ⟨R, 2, none⟩ = some (.int .i64 (m : Int)) := by rw [HW5.1.cell.cell, HM.out]; rfl
  have HR5 := hide HW5.1
  have HF5 := hide HW5.2
  clear e5 HW5 c1 c2 f2 w1 w2 w3 w4
  go_still_tail 11, (by kernel_rfl)
  go_wp2_with fail
  refine (HG.out _ (RSt_drew HR5.out) (Fr.drew HF5.out)).mono ?_
  rintro (v | ch | _) w1 hq
  · have HQ := hide hq
    clear hq
    go_wp2_with fail
    exact HQ.out
  · exact ⟨rfl, hq⟩
  · exact absurd hq (hno _)
set_option maxHeartbeats 1000000 in
theorem take_short_truth (w : World) (R : Nat) (a : Option Addr) (c : Nat) (bs : List Int) (at' n : Nat) (fv : Value) (h : RSt w R a c bs at' 0 0) (_hn : n ≤ 9223372036854775807) (hs : bs.length < at' + n) :
    Calls Try.prog 145 #[.pointer (some ⟨R, 0, none⟩), .int .i64 (n : Int), fv] w (Bad w R a c bs 6) := by
  have c1 : w.cell? ⟨R, 1, none⟩ = some (.slice a bs.length c) := by rw [h.cell.cell]; rfl
  have c2 : w.cell? ⟨R, 2, none⟩ = some (.int .i64 (at' : Int)) := by rw [h.cell.cell]; rfl
  have hle := h.le
  have hsm := h.small
  have HR := hide (fun q => RSt_drawn h q)
  obtain ⟨k, hk⟩ : ∃ k, k = bs.length := ⟨_, rfl⟩
  rw [← hk] at hle hsm hs c1
  have w1 : IntKind.i64.wrap (↑k - ↑at') = (k : Int) - (at' : Int) := IntWalk.i64_in _ (by omega)
  have w3 : decide ((k : Int) - (at' : Int) < (n : Int)) = true := decide_eq_true (by omega)
  clear h hk
  go_enter Try.func145, Try.ntmps145
  go_upto_region 1 with fail
  go_quiet (fail)
  go_wp2_with fail
  exact ⟨rfl, rfl, ⟨at', HR.out _⟩, Fr.drewN (Fr.refl _ w) _⟩
set_option maxRecDepth 4000 in
set_option maxHeartbeats 1000000 in
theorem take_truth (w : World) (R : Nat) (a : Option Addr) (c : Nat) (bs : List Int) (at' n : Nat) (h : RSt w R a c bs at' 0 0) (hn : at' + n ≤ bs.length) (Q : Ending → World → Prop) (hno : ∀ W, ¬ Q .outgrown W)
    (hG : ∀ W, RSt W R a c bs (at' + n) 0 0 → Fr (Xr R) w W → Calls Try.prog 146 #[.slice (sa a c at') n (c - at')] W Q) :
    Calls Try.prog 145 #[.pointer (some ⟨R, 0, none⟩), .int .i64 (n : Int), .func (.func 146) #[] #[]] w Q := by
  have c1 : w.cell? ⟨R, 1, none⟩ = some (.slice a bs.length c) := by rw [h.cell.cell]; rfl
  have c2 : w.cell? ⟨R, 2, none⟩ = some (.int .i64 (at' : Int)) := by rw [h.cell.cell]; rfl
  have f2 : w.frozen? ⟨R, 2, none⟩ = false := h.cell.frozen 2
  have hle := h.le
  have hsm := h.small
  obtain ⟨m, hm⟩ : ∃ m, m = at' + n := ⟨_, rfl⟩
  have hcap : bs.length ≤ c := by obtain ⟨_, _, e1, hc, _⟩ := h.bin; cases e1; exact hc
  have HG := hide hG
  have HW := hide (fun q => show RSt ((w.drewN q).setCell ⟨R, 2, none⟩ (.int .i64 (m : Int))) R a c bs (at' + n) 0 0 ∧ Fr (Xr R) w ((w.drewN q).setCell ⟨R, 2, none⟩ (.int .i64 (m : Int))) from ⟨by rw [hm]; exact RSt_move (RSt_drawn h q) (at' + n) hn, (Fr.drewN (Fr.refl (Xr R) w) q).setCell R 2 _ (fun _ => rfl)⟩)
  obtain ⟨k, hk⟩ : ∃ k, k = bs.length := ⟨_, rfl⟩
  rw [← hk] at hle hsm hn c1 hcap
  have w1 : IntKind.i64.wrap (↑k - ↑at') = (k : Int) - (at' : Int) := IntWalk.i64_in _ (by omega)
  have w2 : IntKind.i64.wrap (↑at' + ↑n) = (m : Int) := by rw [IntWalk.i64_in _ (by omega)]; omega
  have w4 : (at' : Int) + (n : Int) = (m : Int) := by omega
  have w3 : decide ((k : Int) - (at' : Int) < (n : Int)) = false := decide_eq_false (by omega)
  have hsl := slR a k c at' m n hm (by omega) hcap
  have HK := hide hk
  have HM := hide hm
  clear h hk hG hm
  go_enter Try.func145, Try.ntmps145
  go_upto_region 1 with fail
  go_quiet (fail)
  go_upto_region 5 with fail
  obtain ⟨W5, e5⟩ : ∃ X, X = (w.drewN nq).setCell ⟨R, 2, none⟩ (.int .i64 (m : Int)) := ⟨_, rfl⟩
  rw [← e5]
  have HW5 := HW.out nq
  rw [← e5] at HW5
  have c1' : W5.cell? ⟨R, 1, none⟩ = some (.slice a k c) := by rw [HW5.1.cell.cell, HK.out]; rfl
  have c2' : W5.cell? ⟨R, 2, none⟩ = some (.int .i64 (m : Int)) := by rw [HW5.1.cell.cell, HM.out]; rfl
  have HR5 := hide HW5.1
  have HF5 := hide HW5.2
  clear e5 HW5 c1 c2 f2 w1 w2 w3 w4
  go_still_tail 11, (by kernel_rfl)
  go_wp2_with fail
  refine (HG.out _ (RSt_drew HR5.out) (Fr.drew HF5.out)).mono ?_
  rintro (v | ch | _) w1 hq
  · have HQ := hide hq
    clear hq
    go_wp2_with fail
    exact HQ.out
  · exact ⟨rfl, hq⟩
  · exact absurd hq (hno _)
set_option maxHeartbeats 1000000 in
theorem take_short_text (w : World) (R : Nat) (a : Option Addr) (c : Nat) (bs : List Int) (at' n : Nat) (fv : Value) (h : RSt w R a c bs at' 0 0) (_hn : n ≤ 9223372036854775807) (hs : bs.length < at' + n) :
    Calls Try.prog 188 #[.pointer (some ⟨R, 0, none⟩), .int .i64 (n : Int), fv] w (Bad w R a c bs 6) := by
  have c1 : w.cell? ⟨R, 1, none⟩ = some (.slice a bs.length c) := by rw [h.cell.cell]; rfl
  have c2 : w.cell? ⟨R, 2, none⟩ = some (.int .i64 (at' : Int)) := by rw [h.cell.cell]; rfl
  have hle := h.le
  have hsm := h.small
  have HR := hide (fun q => RSt_drawn h q)
  obtain ⟨k, hk⟩ : ∃ k, k = bs.length := ⟨_, rfl⟩
  rw [← hk] at hle hsm hs c1
  have w1 : IntKind.i64.wrap (↑k - ↑at') = (k : Int) - (at' : Int) := IntWalk.i64_in _ (by omega)
  have w3 : decide ((k : Int) - (at' : Int) < (n : Int)) = true := decide_eq_true (by omega)
  clear h hk
  go_enter Try.func188, Try.ntmps188
  go_upto_region 1 with fail
  go_quiet (fail)
  go_wp2_with fail
  exact ⟨rfl, rfl, ⟨at', HR.out _⟩, Fr.drewN (Fr.refl _ w) _⟩
set_option maxRecDepth 4000 in
set_option maxHeartbeats 1000000 in
theorem take_text (w : World) (R : Nat) (a : Option Addr) (c : Nat) (bs : List Int) (at' n : Nat) (h : RSt w R a c bs at' 0 0) (hn : at' + n ≤ bs.length) (Q : Ending → World → Prop) (hno : ∀ W, ¬ Q .outgrown W)
    (hG : ∀ W, RSt W R a c bs (at' + n) 0 0 → Fr (Xr R) w W → Calls Try.prog 123 #[.slice (sa a c at') n (c - at')] W Q) :
    Calls Try.prog 188 #[.pointer (some ⟨R, 0, none⟩), .int .i64 (n : Int), .func (.func 123) #[] #[]] w Q := by
  have c1 : w.cell? ⟨R, 1, none⟩ = some (.slice a bs.length c) := by rw [h.cell.cell]; rfl
  have c2 : w.cell? ⟨R, 2, none⟩ = some (.int .i64 (at' : Int)) := by rw [h.cell.cell]; rfl
  have f2 : w.frozen? ⟨R, 2, none⟩ = false := h.cell.frozen 2
  have hle := h.le
  have hsm := h.small
  obtain ⟨m, hm⟩ : ∃ m, m = at' + n := ⟨_, rfl⟩
  have hcap : bs.length ≤ c := by obtain ⟨_, _, e1, hc, _⟩ := h.bin; cases e1; exact hc
  have HG := hide hG
  have HW := hide (fun q => show RSt ((w.drewN q).setCell ⟨R, 2, none⟩ (.int .i64 (m : Int))) R a c bs (at' + n) 0 0 ∧ Fr (Xr R) w ((w.drewN q).setCell ⟨R, 2, none⟩ (.int .i64 (m : Int))) from ⟨by rw [hm]; exact RSt_move (RSt_drawn h q) (at' + n) hn, (Fr.drewN (Fr.refl (Xr R) w) q).setCell R 2 _ (fun _ => rfl)⟩)
  obtain ⟨k, hk⟩ : ∃ k, k = bs.length := ⟨_, rfl⟩
  rw [← hk] at hle hsm hn c1 hcap
  have w1 : IntKind.i64.wrap (↑k - ↑at') = (k : Int) - (at' : Int) := IntWalk.i64_in _ (by omega)
  have w2 : IntKind.i64.wrap (↑at' + ↑n) = (m : Int) := by rw [IntWalk.i64_in _ (by omega)]; omega
  have w4 : (at' : Int) + (n : Int) = (m : Int) := by omega
  have w3 : decide ((k : Int) - (at' : Int) < (n : Int)) = false := decide_eq_false (by omega)
  have hsl := slR a k c at' m n hm (by omega) hcap
  have HK := hide hk
  have HM := hide hm
  clear h hk hG hm
  go_enter Try.func188, Try.ntmps188
  go_upto_region 1 with fail
  go_quiet (fail)
  go_upto_region 5 with fail
  obtain ⟨W5, e5⟩ : ∃ X, X = (w.drewN nq).setCell ⟨R, 2, none⟩ (.int .i64 (m : Int)) := ⟨_, rfl⟩
  rw [← e5]
  have HW5 := HW.out nq
  rw [← e5] at HW5
  have c1' : W5.cell? ⟨R, 1, none⟩ = some (.slice a k c) := by rw [HW5.1.cell.cell, HK.out]; rfl
  have c2' : W5.cell? ⟨R, 2, none⟩ = some (.int .i64 (m : Int)) := by rw [HW5.1.cell.cell, HM.out]; rfl
  have HR5 := hide HW5.1
  have HF5 := hide HW5.2
  clear e5 HW5 c1 c2 f2 w1 w2 w3 w4
  go_still_tail 11, (by kernel_rfl)
  go_wp2_with fail
  refine (HG.out _ (RSt_drew HR5.out) (Fr.drew HF5.out)).mono ?_
  rintro (v | ch | _) w1 hq
  · have HQ := hide hq
    clear hq
    go_wp2_with fail
    exact HQ.out
  · exact ⟨rfl, hq⟩
  · exact absurd hq (hno _)
set_option maxHeartbeats 1000000 in
theorem take_short_bytes (w : World) (R : Nat) (a : Option Addr) (c : Nat) (bs : List Int) (at' n : Nat) (fv : Value) (h : RSt w R a c bs at' 0 0) (_hn : n ≤ 9223372036854775807) (hs : bs.length < at' + n) :
    Calls Try.prog 190 #[.pointer (some ⟨R, 0, none⟩), .int .i64 (n : Int), fv] w (Bad w R a c bs 6) := by
  have c1 : w.cell? ⟨R, 1, none⟩ = some (.slice a bs.length c) := by rw [h.cell.cell]; rfl
  have c2 : w.cell? ⟨R, 2, none⟩ = some (.int .i64 (at' : Int)) := by rw [h.cell.cell]; rfl
  have hle := h.le
  have hsm := h.small
  have HR := hide (fun q => RSt_drawn h q)
  obtain ⟨k, hk⟩ : ∃ k, k = bs.length := ⟨_, rfl⟩
  rw [← hk] at hle hsm hs c1
  have w1 : IntKind.i64.wrap (↑k - ↑at') = (k : Int) - (at' : Int) := IntWalk.i64_in _ (by omega)
  have w3 : decide ((k : Int) - (at' : Int) < (n : Int)) = true := decide_eq_true (by omega)
  clear h hk
  go_enter Try.func190, Try.ntmps190
  go_upto_region 1 with fail
  go_quiet (fail)
  go_wp2_with fail
  exact ⟨rfl, rfl, ⟨at', HR.out _⟩, Fr.drewN (Fr.refl _ w) _⟩
set_option maxRecDepth 4000 in
set_option maxHeartbeats 1000000 in
theorem take_bytes (w : World) (R : Nat) (a : Option Addr) (c : Nat) (bs : List Int) (at' n : Nat) (h : RSt w R a c bs at' 0 0) (hn : at' + n ≤ bs.length) (Q : Ending → World → Prop) (hno : ∀ W, ¬ Q .outgrown W)
    (hG : ∀ W, RSt W R a c bs (at' + n) 0 0 → Fr (Xr R) w W → Calls Try.prog 106 #[.slice (sa a c at') n (c - at')] W Q) :
    Calls Try.prog 190 #[.pointer (some ⟨R, 0, none⟩), .int .i64 (n : Int), .func (.func 106) #[] #[]] w Q := by
  have c1 : w.cell? ⟨R, 1, none⟩ = some (.slice a bs.length c) := by rw [h.cell.cell]; rfl
  have c2 : w.cell? ⟨R, 2, none⟩ = some (.int .i64 (at' : Int)) := by rw [h.cell.cell]; rfl
  have f2 : w.frozen? ⟨R, 2, none⟩ = false := h.cell.frozen 2
  have hle := h.le
  have hsm := h.small
  obtain ⟨m, hm⟩ : ∃ m, m = at' + n := ⟨_, rfl⟩
  have hcap : bs.length ≤ c := by obtain ⟨_, _, e1, hc, _⟩ := h.bin; cases e1; exact hc
  have HG := hide hG
  have HW := hide (fun q => show RSt ((w.drewN q).setCell ⟨R, 2, none⟩ (.int .i64 (m : Int))) R a c bs (at' + n) 0 0 ∧ Fr (Xr R) w ((w.drewN q).setCell ⟨R, 2, none⟩ (.int .i64 (m : Int))) from ⟨by rw [hm]; exact RSt_move (RSt_drawn h q) (at' + n) hn, (Fr.drewN (Fr.refl (Xr R) w) q).setCell R 2 _ (fun _ => rfl)⟩)
  obtain ⟨k, hk⟩ : ∃ k, k = bs.length := ⟨_, rfl⟩
  rw [← hk] at hle hsm hn c1 hcap
  have w1 : IntKind.i64.wrap (↑k - ↑at') = (k : Int) - (at' : Int) := IntWalk.i64_in _ (by omega)
  have w2 : IntKind.i64.wrap (↑at' + ↑n) = (m : Int) := by rw [IntWalk.i64_in _ (by omega)]; omega
  have w4 : (at' : Int) + (n : Int) = (m : Int) := by omega
  have w3 : decide ((k : Int) - (at' : Int) < (n : Int)) = false := decide_eq_false (by omega)
  have hsl := slR a k c at' m n hm (by omega) hcap
  have HK := hide hk
  have HM := hide hm
  clear h hk hG hm
  go_enter Try.func190, Try.ntmps190
  go_upto_region 1 with fail
  go_quiet (fail)
  go_upto_region 5 with fail
  obtain ⟨W5, e5⟩ : ∃ X, X = (w.drewN nq).setCell ⟨R, 2, none⟩ (.int .i64 (m : Int)) := ⟨_, rfl⟩
  rw [← e5]
  have HW5 := HW.out nq
  rw [← e5] at HW5
  have c1' : W5.cell? ⟨R, 1, none⟩ = some (.slice a k c) := by rw [HW5.1.cell.cell, HK.out]; rfl
  have c2' : W5.cell? ⟨R, 2, none⟩ = some (.int .i64 (m : Int)) := by rw [HW5.1.cell.cell, HM.out]; rfl
  have HR5 := hide HW5.1
  have HF5 := hide HW5.2
  clear e5 HW5 c1 c2 f2 w1 w2 w3 w4
  go_still_tail 11, (by kernel_rfl)
  go_wp2_with fail
  refine (HG.out _ (RSt_drew HR5.out) (Fr.drew HF5.out)).mono ?_
  rintro (v | ch | _) w1 hq
  · have HQ := hide hq
    clear hq
    go_wp2_with fail
    exact HQ.out
  · exact ⟨rfl, hq⟩
  · exact absurd hq (hno _)
set_option maxHeartbeats 1000000 in
theorem take_short_pace (w : World) (R : Nat) (a : Option Addr) (c : Nat) (bs : List Int) (at' n : Nat) (fv : Value) (h : RSt w R a c bs at' 0 0) (_hn : n ≤ 9223372036854775807) (hs : bs.length < at' + n) :
    Calls Try.prog 141 #[.pointer (some ⟨R, 0, none⟩), .int .i64 (n : Int), fv] w (Bad w R a c bs 6) := by
  have c1 : w.cell? ⟨R, 1, none⟩ = some (.slice a bs.length c) := by rw [h.cell.cell]; rfl
  have c2 : w.cell? ⟨R, 2, none⟩ = some (.int .i64 (at' : Int)) := by rw [h.cell.cell]; rfl
  have hle := h.le
  have hsm := h.small
  have HR := hide (fun q => RSt_drawn h q)
  obtain ⟨k, hk⟩ : ∃ k, k = bs.length := ⟨_, rfl⟩
  rw [← hk] at hle hsm hs c1
  have w1 : IntKind.i64.wrap (↑k - ↑at') = (k : Int) - (at' : Int) := IntWalk.i64_in _ (by omega)
  have w3 : decide ((k : Int) - (at' : Int) < (n : Int)) = true := decide_eq_true (by omega)
  clear h hk
  go_enter Try.func141, Try.ntmps141
  go_upto_region 1 with fail
  go_quiet (fail)
  go_wp2_with fail
  exact ⟨rfl, rfl, ⟨at', HR.out _⟩, Fr.drewN (Fr.refl _ w) _⟩
set_option maxRecDepth 4000 in
set_option maxHeartbeats 1000000 in
theorem take_pace (w : World) (R : Nat) (a : Option Addr) (c : Nat) (bs : List Int) (at' n : Nat) (h : RSt w R a c bs at' 0 0) (hn : at' + n ≤ bs.length) (Q : Ending → World → Prop) (hno : ∀ W, ¬ Q .outgrown W)
    (hG : ∀ W, RSt W R a c bs (at' + n) 0 0 → Fr (Xr R) w W → Calls Try.prog 142 #[.slice (sa a c at') n (c - at')] W Q) :
    Calls Try.prog 141 #[.pointer (some ⟨R, 0, none⟩), .int .i64 (n : Int), .func (.func 142) #[] #[]] w Q := by
  have c1 : w.cell? ⟨R, 1, none⟩ = some (.slice a bs.length c) := by rw [h.cell.cell]; rfl
  have c2 : w.cell? ⟨R, 2, none⟩ = some (.int .i64 (at' : Int)) := by rw [h.cell.cell]; rfl
  have f2 : w.frozen? ⟨R, 2, none⟩ = false := h.cell.frozen 2
  have hle := h.le
  have hsm := h.small
  obtain ⟨m, hm⟩ : ∃ m, m = at' + n := ⟨_, rfl⟩
  have hcap : bs.length ≤ c := by obtain ⟨_, _, e1, hc, _⟩ := h.bin; cases e1; exact hc
  have HG := hide hG
  have HW := hide (fun q => show RSt ((w.drewN q).setCell ⟨R, 2, none⟩ (.int .i64 (m : Int))) R a c bs (at' + n) 0 0 ∧ Fr (Xr R) w ((w.drewN q).setCell ⟨R, 2, none⟩ (.int .i64 (m : Int))) from ⟨by rw [hm]; exact RSt_move (RSt_drawn h q) (at' + n) hn, (Fr.drewN (Fr.refl (Xr R) w) q).setCell R 2 _ (fun _ => rfl)⟩)
  obtain ⟨k, hk⟩ : ∃ k, k = bs.length := ⟨_, rfl⟩
  rw [← hk] at hle hsm hn c1 hcap
  have w1 : IntKind.i64.wrap (↑k - ↑at') = (k : Int) - (at' : Int) := IntWalk.i64_in _ (by omega)
  have w2 : IntKind.i64.wrap (↑at' + ↑n) = (m : Int) := by rw [IntWalk.i64_in _ (by omega)]; omega
  have w4 : (at' : Int) + (n : Int) = (m : Int) := by omega
  have w3 : decide ((k : Int) - (at' : Int) < (n : Int)) = false := decide_eq_false (by omega)
  have hsl := slR a k c at' m n hm (by omega) hcap
  have HK := hide hk
  have HM := hide hm
  clear h hk hG hm
  go_enter Try.func141, Try.ntmps141
  go_upto_region 1 with fail
  go_quiet (fail)
  go_upto_region 5 with fail
  obtain ⟨W5, e5⟩ : ∃ X, X = (w.drewN nq).setCell ⟨R, 2, none⟩ (.int .i64 (m : Int)) := ⟨_, rfl⟩
  rw [← e5]
  have HW5 := HW.out nq
  rw [← e5] at HW5
  have c1' : W5.cell? ⟨R, 1, none⟩ = some (.slice a k c) := by rw [HW5.1.cell.cell, HK.out]; rfl
  have c2' : W5.cell? ⟨R, 2, none⟩ = some (.int .i64 (m : Int)) := by rw [HW5.1.cell.cell, HM.out]; rfl
  have HR5 := hide HW5.1
  have HF5 := hide HW5.2
  clear e5 HW5 c1 c2 f2 w1 w2 w3 w4
  go_still_tail 11, (by kernel_rfl)
  go_wp2_with fail
  refine (HG.out _ (RSt_drew HR5.out) (Fr.drew HF5.out)).mono ?_
  rintro (v | ch | _) w1 hq
  · have HQ := hide hq
    clear hq
    go_wp2_with fail
    exact HQ.out
  · exact ⟨rfl, hq⟩
  · exact absurd hq (hno _)
end WirH
end Go.Proofs.Ytplinpbmncccoaa
