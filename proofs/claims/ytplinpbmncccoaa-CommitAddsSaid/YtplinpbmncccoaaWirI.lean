/-
  The program's reader: a fault laid down, what is deferred, read.
-/
import Derived.Test.YtplinpbmncccoaaWirH
namespace Go.Proofs.Ytplinpbmncccoaa
namespace WirI
open Go.RowKit
open BlkM WirM WirS WirA WirB WirG WirH

set_option maxRecDepth 8000 in
theorem halted_any (w : World) (R : Nat) (a : Option Addr) (c : Nat) (bs : List Int) (at' : Nat) (fe fa code fr : Int) (h : RSt w R a c bs at' fe fa) :
    Calls Try.prog 184 #[.pointer (some ⟨R, 0, none⟩), .int .i64 fr, .iface 208 (.agg #[.int .i64 code])] w fun e w' => e = .returned (.tuple #[]) ∧ RSt w' R a c bs at' code fr ∧ Fr (Xr R) w w' := by
  have c3 : w.cell? ⟨R, 3, none⟩ = some (.int .i64 fe) := by rw [h.cell.cell]; rfl
  have c4 : w.cell? ⟨R, 4, none⟩ = some (.int .i64 fa) := by rw [h.cell.cell]; rfl
  have f3 : w.frozen? ⟨R, 3, none⟩ = false := h.cell.frozen 3
  have f4 : w.frozen? ⟨R, 4, none⟩ = false := h.cell.frozen 4
  have HF := hide (show Fr (Xr R) w ((w.setCell ⟨R, 3, none⟩ (.int .i64 code)).setCell ⟨R, 4, none⟩ (.int .i64 fr)) from ((Fr.refl (Xr R) w).setCell R 3 _ (fun _ => rfl)).setCell R 4 _ (fun _ => rfl))
  have HR := hide (show RSt ((w.setCell ⟨R, 3, none⟩ (.int .i64 code)).setCell ⟨R, 4, none⟩ (.int .i64 fr)) R a c bs at' code fr from
    ⟨(h.cell.setCell 3 _).setCell 4 _, h.bin.fr (X := Xr R) HF.out (fun k hk hx => h.off (by rw [hk, hx])), h.off, fun k hk => by simpa using h.olt k hk, h.le, h.small, h.bytes⟩)
  have hta : ∀ W : World, (Instr.typeAssert (.iface 208 (.agg #[.int .i64 code])) 20 208 false).run Try.prog W = .ok (.agg #[.int .i64 code]) W := fun W => by kernel_rfl
  have hfd : ∀ W : World, (Instr.field 208 (.agg #[.int .i64 code]) 0).run Try.prog W = .ok (.int .i64 code) W := fun W => by kernel_rfl
  clear h
  go_enter Try.func184, Try.ntmps184
  go_wp2
  first | go_end0 | refine bodyPost_ret (results_none rfl _ _ _) rfl ?_
  exact ⟨rfl, HR.out, HF.out⟩
/-- What an element is: an error, or what holds of its value, and the place behind it. -/
abbrev Out := Sum Int ((Value → World → Prop) × Nat)
def ElemPost (W : World) (R : Nat) (a : Option Addr) (c : Nat) (bs : List Int) (out : Out) (e : Ending) (w' : World) : Prop :=
  match out with
  | .inl code => Bad W R a c bs code e w'
  | .inr x => ∃ v, e = .returned v ∧ x.1 v w' ∧ RSt w' R a c bs x.2 0 0 ∧ Fr (Xr R) W w'
def ReadPost (w : World) (R : Nat) (a : Option Addr) (c : Nat) (bs : List Int) (at' : Nat) (zero : Value) (out : Out) (e : Ending) (w' : World) : Prop :=
  match out with
  | .inl code => e = .returned zero ∧ (∃ p, RSt w' R a c bs p code at') ∧ Fr (Xr R) w w'
  | .inr x => ∃ v, e = .returned v ∧ x.1 v w' ∧ RSt w' R a c bs x.2 0 0 ∧ Fr (Xr R) w w'
def hp2 (c : Int) : List PanicEntry := [{ v := .iface 208 (.agg #[.int .i64 c]), recovered := true }]
theorem idle_word (p q : Addr) (w : World) :
    CallsD Try.prog 193 #[.pointer (some p), .pointer (some q)] .returning w fun e u' w' => e = .returned (.tuple #[]) ∧ u' = .returning ∧ w' = w := by
  refine callsD_of_wpS Try.func193 rfl fun c₀ cs hu => ?_
  apply wpS_seq
  apply wpS_region
  simp [wpOpsS, go_sem, recoverD, hu, Try.ntmps193, Exit.thenS]
  refine wpS_of_wp ?_
  go_wp2
  cases c₀
  simp_all [bodyPostS, results, Try.results193]
set_option maxRecDepth 8000 in
set_option maxHeartbeats 1000000 in
theorem catch_word (p q : Nat) (w : World) (R : Nat) (a : Option Addr) (c : Nat) (bs : List Int) (at' : Nat) (fe fa code fr : Int) (h : RSt w R a c bs at' fe fa)
    (hp0 : w.cell? ⟨p, 0, none⟩ = some (.pointer (some ⟨R, 0, none⟩))) (hq0 : w.cell? ⟨q, 0, none⟩ = some (.int .i64 fr)) :
    CallsD Try.prog 193 #[.pointer (some ⟨p, 0, none⟩), .pointer (some ⟨q, 0, none⟩)] (.panicking (hp code)) w fun e u' w' => e = .returned (.tuple #[]) ∧ u' = .panicking (hp2 code) ∧ RSt w' R a c bs at' code fr ∧ Fr (Xr R) w w' := by
  have H := hide (halted_any w R a c bs at' fe fa code fr h)
  clear h
  refine callsD_of_wpS Try.func193 rfl fun c₀ cs hu => ?_
  apply wpS_seq
  apply wpS_region
  simp [wpOpsS, go_sem, recoverD, hu, hp, Try.ntmps193, Exit.thenS]
  refine wpS_of_wp ?_
  go_wp2_with ((go_at_call 184; refine (H.out).mono ?_; rintro e w1 ⟨rfl, h2⟩; have HH := hide h2; clear h2))
  exact ⟨rfl, _, rfl, _, by simp [results, Try.results193], rfl, rfl, HH.out⟩
theorem read_none_word (w : World) (p : Option Addr) (fv : Value) (h : NoR w p) (hp : ∀ S, p = some ⟨S, 0, none⟩ → S < w.heap.size) : Calls Try.prog 135 #[.pointer p, fv] w fun e w' => e = .returned (.int .u64 0) ∧ Below w.heap.size w w' := by
  have H := hide (fun W (hb : Below w.heap.size w W) => reads_none W p (by
    rcases h with rfl | ⟨S, rfl, hc⟩
    · exact .inl rfl
    · exact .inr ⟨S, rfl, (hb.cell (hp S rfl)).trans hc⟩))
  have hmf : ∀ (fn : Fn) (first cap : Array Value) (w : World), (Instr.makeFunc fn first cap).run Try.prog w = .ok (.func fn first cap) w := fun _ _ _ _ => rfl
  have hb := hide (show Below w.heap.size w (w.alloc (.cells #[.pointer p] 48)) from Below.alloc (Below.refl _ _) (Nat.le_refl _) _)
  clear h hp
  go_enter_defers Try.func135, Try.ntmps135
  go_wp2_with ((go_at_call 116; refine (H.out _ hb.out).mono ?_; rintro e w1 ⟨rfl, rfl⟩))
  exact ⟨_, results_tmp rfl _ _ _, rfl, hb.out⟩
theorem read_fault_word (w : World) (R : Nat) (a : Option Addr) (c : Nat) (bs : List Int) (at' : Nat) (fe fa : Int) (fv : Value) (h : RSt w R a c bs at' fe fa) (he : fe ≠ 0) : Calls Try.prog 135 #[.pointer (some ⟨R, 0, none⟩), fv] w fun e w' => e = .returned (.int .u64 0) ∧ Below w.heap.size w w' := by
  have H := hide (fun W (hb : Below w.heap.size w W) => reads_any W R a c bs at' fe fa (h.below hb))
  have e0 : (fe == 0) = false := by simpa using he
  have hb := hide (show Below w.heap.size w (w.alloc (.cells #[.pointer (some ⟨R, 0, none⟩)] 48)) from Below.alloc (Below.refl _ _) (Nat.le_refl _) _)
  rw [e0] at H
  clear h he e0
  go_enter_defers Try.func135, Try.ntmps135
  go_wp2_with ((go_at_call 116; refine (H.out _ hb.out).mono ?_; rintro e w1 ⟨rfl, rfl⟩))
  exact ⟨_, results_tmp rfl _ _ _, rfl, hb.out⟩
set_option maxRecDepth 8000 in
set_option maxHeartbeats 1000000 in
theorem read_word (w : World) (R : Nat) (a : Option Addr) (c : Nat) (bs : List Int) (at' : Nat) (X : Value) (out : Out) (h : RSt w R a c bs at' 0 0)
    (hG : ∀ W, Below w.heap.size w W → RSt W R a c bs at' 0 0 → Calls Try.prog 136 #[X] W (ElemPost W R a c bs out)) :
    Calls Try.prog 135 #[.pointer (some ⟨R, 0, none⟩), .func (.func 136) #[] #[X]] w (ReadPost w R a c bs at' (.int .u64 0) out) := by
  have hlt := h.lt
  have H := hide (fun W (hb : Below w.heap.size w W) => reads_any W R a c bs at' 0 0 (h.below hb))
  have hb := hide (show Below w.heap.size w (w.alloc (.cells #[.pointer (some ⟨R, 0, none⟩)] 48)) from Below.alloc (Below.refl _ _) (Nat.le_refl _) _)
  have c2 : w.cell? ⟨R, 2, none⟩ = some (.int .i64 (at' : Int)) := by rw [h.cell.cell]; rfl
  obtain ⟨W4, e4⟩ : ∃ X, X = (w.alloc (.cells #[.pointer (some ⟨R, 0, none⟩)] 48)).alloc (.cells #[.int .i64 (at' : Int)] 3) := ⟨_, rfl⟩
  have hb4 : Below w.heap.size w W4 := by rw [e4]; exact Below.alloc (Below.alloc (Below.refl _ _) (Nat.le_refl _) _) (by simp) _
  have hA1 : At W4 w.heap.size 48 [.pointer (some ⟨R, 0, none⟩)] := by rw [e4]; exact At.alloc (At.new w _ [_]) _
  have hA2 : At W4 (w.heap.size + 1) 3 [.int .i64 (at' : Int)] := by
    rw [e4]
    have := At.new (w.alloc (.cells #[.pointer (some ⟨R, 0, none⟩)] 48)) 3 [.int .i64 (at' : Int)]
    rw [World.size_alloc] at this
    exact this
  have hmf : ∀ (fn : Fn) (first cap : Array Value) (w : World), (Instr.makeFunc fn first cap).run Try.prog w = .ok (.func fn first cap) w := fun _ _ _ _ => rfl
  have C := hide (hG W4 hb4 (h.below hb4))
  have E4 := hide e4
  have HB4 := hide hb4
  have HA1 := hide hA1
  have HA2 := hide hA2
  clear hG h e4 hb4 hA1 hA2
  go_enter_defers Try.func135, Try.ntmps135
  go_upto_region 5 with ((go_at_call 116; refine (H.out _ hb.out).mono ?_; rintro e w1 ⟨rfl, rfl⟩))
  rw [← E4.out]
  cases out with
  | inl code =>
    go_wp2_with ((go_at_call 136; refine (C.out).mono ?_; rintro e w1 ⟨rfl, ⟨p, hr⟩, hf⟩))
    have k1 : w1.cell? ⟨w.heap.size, 0, none⟩ = some (.pointer (some ⟨R, 0, none⟩)) := (hf.cell (p := ⟨w.heap.size, 0, none⟩) HA1.out.lt (fun h => by have : w.heap.size = R := h; omega)).trans (HA1.out.cell 0)
    have k2 : w1.cell? ⟨w.heap.size + 1, 0, none⟩ = some (.int .i64 (at' : Int)) := (hf.cell (p := ⟨w.heap.size + 1, 0, none⟩) HA2.out.lt (fun h => by have : w.heap.size + 1 = R := h; omega)).trans (HA2.out.cell 0)
    refine leaves_cons (f := 193) (args := #[.pointer (some ⟨w.heap.size, 0, none⟩), .pointer (some ⟨w.heap.size + 1, 0, none⟩)]) (by simp) (by simp [go_sem]) ?_
    refine (catch_word w.heap.size (w.heap.size + 1) w1 R a c bs p 0 0 code at' hr k1 k2).mono ?_
    rintro e u' w'' ⟨rfl, rfl, hR, hF⟩
    exact ⟨_, results_tmp rfl _ _ _, rfl, ⟨p, hR⟩, ((Fr.of_below HB4.out).trans hf).trans hF⟩
  | inr x =>
    go_wp2_with ((go_at_call 136; refine (C.out).mono ?_; rintro e w1 ⟨v, rfl, hv, hr, hf⟩))
    refine leaves_cons (f := 193) (args := #[.pointer (some ⟨w.heap.size, 0, none⟩), .pointer (some ⟨w.heap.size + 1, 0, none⟩)]) (by simp) (by simp [go_sem]) ?_
    refine (idle_word _ _ w1).mono ?_
    rintro e u' w'' ⟨rfl, rfl, rfl⟩
    exact ⟨_, results_tmp rfl _ _ _, v, rfl, hv, hr, (Fr.of_below HB4.out).trans hf⟩
theorem idle_int (p q : Addr) (w : World) :
    CallsD Try.prog 183 #[.pointer (some p), .pointer (some q)] .returning w fun e u' w' => e = .returned (.tuple #[]) ∧ u' = .returning ∧ w' = w := by
  refine callsD_of_wpS Try.func183 rfl fun c₀ cs hu => ?_
  apply wpS_seq
  apply wpS_region
  simp [wpOpsS, go_sem, recoverD, hu, Try.ntmps183, Exit.thenS]
  refine wpS_of_wp ?_
  go_wp2
  cases c₀
  simp_all [bodyPostS, results, Try.results183]
set_option maxRecDepth 8000 in
set_option maxHeartbeats 1000000 in
theorem catch_int (p q : Nat) (w : World) (R : Nat) (a : Option Addr) (c : Nat) (bs : List Int) (at' : Nat) (fe fa code fr : Int) (h : RSt w R a c bs at' fe fa)
    (hp0 : w.cell? ⟨p, 0, none⟩ = some (.pointer (some ⟨R, 0, none⟩))) (hq0 : w.cell? ⟨q, 0, none⟩ = some (.int .i64 fr)) :
    CallsD Try.prog 183 #[.pointer (some ⟨p, 0, none⟩), .pointer (some ⟨q, 0, none⟩)] (.panicking (hp code)) w fun e u' w' => e = .returned (.tuple #[]) ∧ u' = .panicking (hp2 code) ∧ RSt w' R a c bs at' code fr ∧ Fr (Xr R) w w' := by
  have H := hide (halted_any w R a c bs at' fe fa code fr h)
  clear h
  refine callsD_of_wpS Try.func183 rfl fun c₀ cs hu => ?_
  apply wpS_seq
  apply wpS_region
  simp [wpOpsS, go_sem, recoverD, hu, hp, Try.ntmps183, Exit.thenS]
  refine wpS_of_wp ?_
  go_wp2_with ((go_at_call 184; refine (H.out).mono ?_; rintro e w1 ⟨rfl, h2⟩; have HH := hide h2; clear h2))
  exact ⟨rfl, _, rfl, _, by simp [results, Try.results183], rfl, rfl, HH.out⟩
theorem read_none_int (w : World) (p : Option Addr) (fv : Value) (h : NoR w p) (hp : ∀ S, p = some ⟨S, 0, none⟩ → S < w.heap.size) : Calls Try.prog 118 #[.pointer p, fv] w fun e w' => e = .returned (.int .i64 0) ∧ Below w.heap.size w w' := by
  have H := hide (fun W (hb : Below w.heap.size w W) => reads_none W p (by
    rcases h with rfl | ⟨S, rfl, hc⟩
    · exact .inl rfl
    · exact .inr ⟨S, rfl, (hb.cell (hp S rfl)).trans hc⟩))
  have hmf : ∀ (fn : Fn) (first cap : Array Value) (w : World), (Instr.makeFunc fn first cap).run Try.prog w = .ok (.func fn first cap) w := fun _ _ _ _ => rfl
  have hb := hide (show Below w.heap.size w (w.alloc (.cells #[.pointer p] 48)) from Below.alloc (Below.refl _ _) (Nat.le_refl _) _)
  clear h hp
  go_enter_defers Try.func118, Try.ntmps118
  go_wp2_with ((go_at_call 116; refine (H.out _ hb.out).mono ?_; rintro e w1 ⟨rfl, rfl⟩))
  exact ⟨_, results_tmp rfl _ _ _, rfl, hb.out⟩
theorem read_fault_int (w : World) (R : Nat) (a : Option Addr) (c : Nat) (bs : List Int) (at' : Nat) (fe fa : Int) (fv : Value) (h : RSt w R a c bs at' fe fa) (he : fe ≠ 0) : Calls Try.prog 118 #[.pointer (some ⟨R, 0, none⟩), fv] w fun e w' => e = .returned (.int .i64 0) ∧ Below w.heap.size w w' := by
  have H := hide (fun W (hb : Below w.heap.size w W) => reads_any W R a c bs at' fe fa (h.below hb))
  have e0 : (fe == 0) = false := by simpa using he
  have hb := hide (show Below w.heap.size w (w.alloc (.cells #[.pointer (some ⟨R, 0, none⟩)] 48)) from Below.alloc (Below.refl _ _) (Nat.le_refl _) _)
  rw [e0] at H
  clear h he e0
  go_enter_defers Try.func118, Try.ntmps118
  go_wp2_with ((go_at_call 116; refine (H.out _ hb.out).mono ?_; rintro e w1 ⟨rfl, rfl⟩))
  exact ⟨_, results_tmp rfl _ _ _, rfl, hb.out⟩
set_option maxRecDepth 8000 in
set_option maxHeartbeats 1000000 in
theorem read_int (w : World) (R : Nat) (a : Option Addr) (c : Nat) (bs : List Int) (at' : Nat) (X : Value) (out : Out) (h : RSt w R a c bs at' 0 0)
    (hG : ∀ W, Below w.heap.size w W → RSt W R a c bs at' 0 0 → Calls Try.prog 119 #[X] W (ElemPost W R a c bs out)) :
    Calls Try.prog 118 #[.pointer (some ⟨R, 0, none⟩), .func (.func 119) #[X] #[]] w (ReadPost w R a c bs at' (.int .i64 0) out) := by
  have hlt := h.lt
  have H := hide (fun W (hb : Below w.heap.size w W) => reads_any W R a c bs at' 0 0 (h.below hb))
  have hb := hide (show Below w.heap.size w (w.alloc (.cells #[.pointer (some ⟨R, 0, none⟩)] 48)) from Below.alloc (Below.refl _ _) (Nat.le_refl _) _)
  have c2 : w.cell? ⟨R, 2, none⟩ = some (.int .i64 (at' : Int)) := by rw [h.cell.cell]; rfl
  obtain ⟨W4, e4⟩ : ∃ X, X = (w.alloc (.cells #[.pointer (some ⟨R, 0, none⟩)] 48)).alloc (.cells #[.int .i64 (at' : Int)] 3) := ⟨_, rfl⟩
  have hb4 : Below w.heap.size w W4 := by rw [e4]; exact Below.alloc (Below.alloc (Below.refl _ _) (Nat.le_refl _) _) (by simp) _
  have hA1 : At W4 w.heap.size 48 [.pointer (some ⟨R, 0, none⟩)] := by rw [e4]; exact At.alloc (At.new w _ [_]) _
  have hA2 : At W4 (w.heap.size + 1) 3 [.int .i64 (at' : Int)] := by
    rw [e4]
    have := At.new (w.alloc (.cells #[.pointer (some ⟨R, 0, none⟩)] 48)) 3 [.int .i64 (at' : Int)]
    rw [World.size_alloc] at this
    exact this
  have hmf : ∀ (fn : Fn) (first cap : Array Value) (w : World), (Instr.makeFunc fn first cap).run Try.prog w = .ok (.func fn first cap) w := fun _ _ _ _ => rfl
  have C := hide (hG W4 hb4 (h.below hb4))
  have E4 := hide e4
  have HB4 := hide hb4
  have HA1 := hide hA1
  have HA2 := hide hA2
  clear hG h e4 hb4 hA1 hA2
  go_enter_defers Try.func118, Try.ntmps118
  go_upto_region 5 with ((go_at_call 116; refine (H.out _ hb.out).mono ?_; rintro e w1 ⟨rfl, rfl⟩))
  rw [← E4.out]
  cases out with
  | inl code =>
    go_wp2_with ((go_at_call 119; refine (C.out).mono ?_; rintro e w1 ⟨rfl, ⟨p, hr⟩, hf⟩))
    have k1 : w1.cell? ⟨w.heap.size, 0, none⟩ = some (.pointer (some ⟨R, 0, none⟩)) := (hf.cell (p := ⟨w.heap.size, 0, none⟩) HA1.out.lt (fun h => by have : w.heap.size = R := h; omega)).trans (HA1.out.cell 0)
    have k2 : w1.cell? ⟨w.heap.size + 1, 0, none⟩ = some (.int .i64 (at' : Int)) := (hf.cell (p := ⟨w.heap.size + 1, 0, none⟩) HA2.out.lt (fun h => by have : w.heap.size + 1 = R := h; omega)).trans (HA2.out.cell 0)
    refine leaves_cons (f := 183) (args := #[.pointer (some ⟨w.heap.size, 0, none⟩), .pointer (some ⟨w.heap.size + 1, 0, none⟩)]) (by simp) (by simp [go_sem]) ?_
    refine (catch_int w.heap.size (w.heap.size + 1) w1 R a c bs p 0 0 code at' hr k1 k2).mono ?_
    rintro e u' w'' ⟨rfl, rfl, hR, hF⟩
    exact ⟨_, results_tmp rfl _ _ _, rfl, ⟨p, hR⟩, ((Fr.of_below HB4.out).trans hf).trans hF⟩
  | inr x =>
    go_wp2_with ((go_at_call 119; refine (C.out).mono ?_; rintro e w1 ⟨v, rfl, hv, hr, hf⟩))
    refine leaves_cons (f := 183) (args := #[.pointer (some ⟨w.heap.size, 0, none⟩), .pointer (some ⟨w.heap.size + 1, 0, none⟩)]) (by simp) (by simp [go_sem]) ?_
    refine (idle_int _ _ w1).mono ?_
    rintro e u' w'' ⟨rfl, rfl, rfl⟩
    exact ⟨_, results_tmp rfl _ _ _, v, rfl, hv, hr, (Fr.of_below HB4.out).trans hf⟩
theorem idle_bool (p q : Addr) (w : World) :
    CallsD Try.prog 196 #[.pointer (some p), .pointer (some q)] .returning w fun e u' w' => e = .returned (.tuple #[]) ∧ u' = .returning ∧ w' = w := by
  refine callsD_of_wpS Try.func196 rfl fun c₀ cs hu => ?_
  apply wpS_seq
  apply wpS_region
  simp [wpOpsS, go_sem, recoverD, hu, Try.ntmps196, Exit.thenS]
  refine wpS_of_wp ?_
  go_wp2
  cases c₀
  simp_all [bodyPostS, results, Try.results196]
set_option maxRecDepth 8000 in
set_option maxHeartbeats 1000000 in
theorem catch_bool (p q : Nat) (w : World) (R : Nat) (a : Option Addr) (c : Nat) (bs : List Int) (at' : Nat) (fe fa code fr : Int) (h : RSt w R a c bs at' fe fa)
    (hp0 : w.cell? ⟨p, 0, none⟩ = some (.pointer (some ⟨R, 0, none⟩))) (hq0 : w.cell? ⟨q, 0, none⟩ = some (.int .i64 fr)) :
    CallsD Try.prog 196 #[.pointer (some ⟨p, 0, none⟩), .pointer (some ⟨q, 0, none⟩)] (.panicking (hp code)) w fun e u' w' => e = .returned (.tuple #[]) ∧ u' = .panicking (hp2 code) ∧ RSt w' R a c bs at' code fr ∧ Fr (Xr R) w w' := by
  have H := hide (halted_any w R a c bs at' fe fa code fr h)
  clear h
  refine callsD_of_wpS Try.func196 rfl fun c₀ cs hu => ?_
  apply wpS_seq
  apply wpS_region
  simp [wpOpsS, go_sem, recoverD, hu, hp, Try.ntmps196, Exit.thenS]
  refine wpS_of_wp ?_
  go_wp2_with ((go_at_call 184; refine (H.out).mono ?_; rintro e w1 ⟨rfl, h2⟩; have HH := hide h2; clear h2))
  exact ⟨rfl, _, rfl, _, by simp [results, Try.results196], rfl, rfl, HH.out⟩
theorem read_none_bool (w : World) (p : Option Addr) (fv : Value) (h : NoR w p) (hp : ∀ S, p = some ⟨S, 0, none⟩ → S < w.heap.size) : Calls Try.prog 143 #[.pointer p, fv] w fun e w' => e = .returned (.bool false) ∧ Below w.heap.size w w' := by
  have H := hide (fun W (hb : Below w.heap.size w W) => reads_none W p (by
    rcases h with rfl | ⟨S, rfl, hc⟩
    · exact .inl rfl
    · exact .inr ⟨S, rfl, (hb.cell (hp S rfl)).trans hc⟩))
  have hmf : ∀ (fn : Fn) (first cap : Array Value) (w : World), (Instr.makeFunc fn first cap).run Try.prog w = .ok (.func fn first cap) w := fun _ _ _ _ => rfl
  have hb := hide (show Below w.heap.size w (w.alloc (.cells #[.pointer p] 48)) from Below.alloc (Below.refl _ _) (Nat.le_refl _) _)
  clear h hp
  go_enter_defers Try.func143, Try.ntmps143
  go_wp2_with ((go_at_call 116; refine (H.out _ hb.out).mono ?_; rintro e w1 ⟨rfl, rfl⟩))
  exact ⟨_, results_tmp rfl _ _ _, rfl, hb.out⟩
theorem read_fault_bool (w : World) (R : Nat) (a : Option Addr) (c : Nat) (bs : List Int) (at' : Nat) (fe fa : Int) (fv : Value) (h : RSt w R a c bs at' fe fa) (he : fe ≠ 0) : Calls Try.prog 143 #[.pointer (some ⟨R, 0, none⟩), fv] w fun e w' => e = .returned (.bool false) ∧ Below w.heap.size w w' := by
  have H := hide (fun W (hb : Below w.heap.size w W) => reads_any W R a c bs at' fe fa (h.below hb))
  have e0 : (fe == 0) = false := by simpa using he
  have hb := hide (show Below w.heap.size w (w.alloc (.cells #[.pointer (some ⟨R, 0, none⟩)] 48)) from Below.alloc (Below.refl _ _) (Nat.le_refl _) _)
  rw [e0] at H
  clear h he e0
  go_enter_defers Try.func143, Try.ntmps143
  go_wp2_with ((go_at_call 116; refine (H.out _ hb.out).mono ?_; rintro e w1 ⟨rfl, rfl⟩))
  exact ⟨_, results_tmp rfl _ _ _, rfl, hb.out⟩
set_option maxRecDepth 8000 in
set_option maxHeartbeats 1000000 in
theorem read_bool (w : World) (R : Nat) (a : Option Addr) (c : Nat) (bs : List Int) (at' : Nat) (X : Value) (out : Out) (h : RSt w R a c bs at' 0 0)
    (hG : ∀ W, Below w.heap.size w W → RSt W R a c bs at' 0 0 → Calls Try.prog 144 #[X] W (ElemPost W R a c bs out)) :
    Calls Try.prog 143 #[.pointer (some ⟨R, 0, none⟩), .func (.func 144) #[] #[X]] w (ReadPost w R a c bs at' (.bool false) out) := by
  have hlt := h.lt
  have H := hide (fun W (hb : Below w.heap.size w W) => reads_any W R a c bs at' 0 0 (h.below hb))
  have hb := hide (show Below w.heap.size w (w.alloc (.cells #[.pointer (some ⟨R, 0, none⟩)] 48)) from Below.alloc (Below.refl _ _) (Nat.le_refl _) _)
  have c2 : w.cell? ⟨R, 2, none⟩ = some (.int .i64 (at' : Int)) := by rw [h.cell.cell]; rfl
  obtain ⟨W4, e4⟩ : ∃ X, X = (w.alloc (.cells #[.pointer (some ⟨R, 0, none⟩)] 48)).alloc (.cells #[.int .i64 (at' : Int)] 3) := ⟨_, rfl⟩
  have hb4 : Below w.heap.size w W4 := by rw [e4]; exact Below.alloc (Below.alloc (Below.refl _ _) (Nat.le_refl _) _) (by simp) _
  have hA1 : At W4 w.heap.size 48 [.pointer (some ⟨R, 0, none⟩)] := by rw [e4]; exact At.alloc (At.new w _ [_]) _
  have hA2 : At W4 (w.heap.size + 1) 3 [.int .i64 (at' : Int)] := by
    rw [e4]
    have := At.new (w.alloc (.cells #[.pointer (some ⟨R, 0, none⟩)] 48)) 3 [.int .i64 (at' : Int)]
    rw [World.size_alloc] at this
    exact this
  have hmf : ∀ (fn : Fn) (first cap : Array Value) (w : World), (Instr.makeFunc fn first cap).run Try.prog w = .ok (.func fn first cap) w := fun _ _ _ _ => rfl
  have C := hide (hG W4 hb4 (h.below hb4))
  have E4 := hide e4
  have HB4 := hide hb4
  have HA1 := hide hA1
  have HA2 := hide hA2
  clear hG h e4 hb4 hA1 hA2
  go_enter_defers Try.func143, Try.ntmps143
  go_upto_region 5 with ((go_at_call 116; refine (H.out _ hb.out).mono ?_; rintro e w1 ⟨rfl, rfl⟩))
  rw [← E4.out]
  cases out with
  | inl code =>
    go_wp2_with ((go_at_call 144; refine (C.out).mono ?_; rintro e w1 ⟨rfl, ⟨p, hr⟩, hf⟩))
    have k1 : w1.cell? ⟨w.heap.size, 0, none⟩ = some (.pointer (some ⟨R, 0, none⟩)) := (hf.cell (p := ⟨w.heap.size, 0, none⟩) HA1.out.lt (fun h => by have : w.heap.size = R := h; omega)).trans (HA1.out.cell 0)
    have k2 : w1.cell? ⟨w.heap.size + 1, 0, none⟩ = some (.int .i64 (at' : Int)) := (hf.cell (p := ⟨w.heap.size + 1, 0, none⟩) HA2.out.lt (fun h => by have : w.heap.size + 1 = R := h; omega)).trans (HA2.out.cell 0)
    refine leaves_cons (f := 196) (args := #[.pointer (some ⟨w.heap.size, 0, none⟩), .pointer (some ⟨w.heap.size + 1, 0, none⟩)]) (by simp) (by simp [go_sem]) ?_
    refine (catch_bool w.heap.size (w.heap.size + 1) w1 R a c bs p 0 0 code at' hr k1 k2).mono ?_
    rintro e u' w'' ⟨rfl, rfl, hR, hF⟩
    exact ⟨_, results_tmp rfl _ _ _, rfl, ⟨p, hR⟩, ((Fr.of_below HB4.out).trans hf).trans hF⟩
  | inr x =>
    go_wp2_with ((go_at_call 144; refine (C.out).mono ?_; rintro e w1 ⟨v, rfl, hv, hr, hf⟩))
    refine leaves_cons (f := 196) (args := #[.pointer (some ⟨w.heap.size, 0, none⟩), .pointer (some ⟨w.heap.size + 1, 0, none⟩)]) (by simp) (by simp [go_sem]) ?_
    refine (idle_bool _ _ w1).mono ?_
    rintro e u' w'' ⟨rfl, rfl, rfl⟩
    exact ⟨_, results_tmp rfl _ _ _, v, rfl, hv, hr, (Fr.of_below HB4.out).trans hf⟩
theorem idle_pace (p q : Addr) (w : World) :
    CallsD Try.prog 194 #[.pointer (some p), .pointer (some q)] .returning w fun e u' w' => e = .returned (.tuple #[]) ∧ u' = .returning ∧ w' = w := by
  refine callsD_of_wpS Try.func194 rfl fun c₀ cs hu => ?_
  apply wpS_seq
  apply wpS_region
  simp [wpOpsS, go_sem, recoverD, hu, Try.ntmps194, Exit.thenS]
  refine wpS_of_wp ?_
  go_wp2
  cases c₀
  simp_all [bodyPostS, results, Try.results194]
set_option maxRecDepth 8000 in
set_option maxHeartbeats 1000000 in
theorem catch_pace (p q : Nat) (w : World) (R : Nat) (a : Option Addr) (c : Nat) (bs : List Int) (at' : Nat) (fe fa code fr : Int) (h : RSt w R a c bs at' fe fa)
    (hp0 : w.cell? ⟨p, 0, none⟩ = some (.pointer (some ⟨R, 0, none⟩))) (hq0 : w.cell? ⟨q, 0, none⟩ = some (.int .i64 fr)) :
    CallsD Try.prog 194 #[.pointer (some ⟨p, 0, none⟩), .pointer (some ⟨q, 0, none⟩)] (.panicking (hp code)) w fun e u' w' => e = .returned (.tuple #[]) ∧ u' = .panicking (hp2 code) ∧ RSt w' R a c bs at' code fr ∧ Fr (Xr R) w w' := by
  have H := hide (halted_any w R a c bs at' fe fa code fr h)
  clear h
  refine callsD_of_wpS Try.func194 rfl fun c₀ cs hu => ?_
  apply wpS_seq
  apply wpS_region
  simp [wpOpsS, go_sem, recoverD, hu, hp, Try.ntmps194, Exit.thenS]
  refine wpS_of_wp ?_
  go_wp2_with ((go_at_call 184; refine (H.out).mono ?_; rintro e w1 ⟨rfl, h2⟩; have HH := hide h2; clear h2))
  exact ⟨rfl, _, rfl, _, by simp [results, Try.results194], rfl, rfl, HH.out⟩
theorem read_none_pace (w : World) (p : Option Addr) (fv : Value) (h : NoR w p) (hp : ∀ S, p = some ⟨S, 0, none⟩ → S < w.heap.size) : Calls Try.prog 139 #[.pointer p, fv] w fun e w' => e = .returned (.float .f64 0) ∧ Below w.heap.size w w' := by
  have H := hide (fun W (hb : Below w.heap.size w W) => reads_none W p (by
    rcases h with rfl | ⟨S, rfl, hc⟩
    · exact .inl rfl
    · exact .inr ⟨S, rfl, (hb.cell (hp S rfl)).trans hc⟩))
  have hmf : ∀ (fn : Fn) (first cap : Array Value) (w : World), (Instr.makeFunc fn first cap).run Try.prog w = .ok (.func fn first cap) w := fun _ _ _ _ => rfl
  have hb := hide (show Below w.heap.size w (w.alloc (.cells #[.pointer p] 48)) from Below.alloc (Below.refl _ _) (Nat.le_refl _) _)
  clear h hp
  go_enter_defers Try.func139, Try.ntmps139
  go_wp2_with ((go_at_call 116; refine (H.out _ hb.out).mono ?_; rintro e w1 ⟨rfl, rfl⟩))
  exact ⟨_, results_tmp rfl _ _ _, rfl, hb.out⟩
theorem read_fault_pace (w : World) (R : Nat) (a : Option Addr) (c : Nat) (bs : List Int) (at' : Nat) (fe fa : Int) (fv : Value) (h : RSt w R a c bs at' fe fa) (he : fe ≠ 0) : Calls Try.prog 139 #[.pointer (some ⟨R, 0, none⟩), fv] w fun e w' => e = .returned (.float .f64 0) ∧ Below w.heap.size w w' := by
  have H := hide (fun W (hb : Below w.heap.size w W) => reads_any W R a c bs at' fe fa (h.below hb))
  have e0 : (fe == 0) = false := by simpa using he
  have hb := hide (show Below w.heap.size w (w.alloc (.cells #[.pointer (some ⟨R, 0, none⟩)] 48)) from Below.alloc (Below.refl _ _) (Nat.le_refl _) _)
  rw [e0] at H
  clear h he e0
  go_enter_defers Try.func139, Try.ntmps139
  go_wp2_with ((go_at_call 116; refine (H.out _ hb.out).mono ?_; rintro e w1 ⟨rfl, rfl⟩))
  exact ⟨_, results_tmp rfl _ _ _, rfl, hb.out⟩
set_option maxRecDepth 8000 in
set_option maxHeartbeats 1000000 in
theorem read_pace (w : World) (R : Nat) (a : Option Addr) (c : Nat) (bs : List Int) (at' : Nat) (X : Value) (out : Out) (h : RSt w R a c bs at' 0 0)
    (hG : ∀ W, Below w.heap.size w W → RSt W R a c bs at' 0 0 → Calls Try.prog 140 #[X] W (ElemPost W R a c bs out)) :
    Calls Try.prog 139 #[.pointer (some ⟨R, 0, none⟩), .func (.func 140) #[] #[X]] w (ReadPost w R a c bs at' (.float .f64 0) out) := by
  have hlt := h.lt
  have H := hide (fun W (hb : Below w.heap.size w W) => reads_any W R a c bs at' 0 0 (h.below hb))
  have hb := hide (show Below w.heap.size w (w.alloc (.cells #[.pointer (some ⟨R, 0, none⟩)] 48)) from Below.alloc (Below.refl _ _) (Nat.le_refl _) _)
  have c2 : w.cell? ⟨R, 2, none⟩ = some (.int .i64 (at' : Int)) := by rw [h.cell.cell]; rfl
  obtain ⟨W4, e4⟩ : ∃ X, X = (w.alloc (.cells #[.pointer (some ⟨R, 0, none⟩)] 48)).alloc (.cells #[.int .i64 (at' : Int)] 3) := ⟨_, rfl⟩
  have hb4 : Below w.heap.size w W4 := by rw [e4]; exact Below.alloc (Below.alloc (Below.refl _ _) (Nat.le_refl _) _) (by simp) _
  have hA1 : At W4 w.heap.size 48 [.pointer (some ⟨R, 0, none⟩)] := by rw [e4]; exact At.alloc (At.new w _ [_]) _
  have hA2 : At W4 (w.heap.size + 1) 3 [.int .i64 (at' : Int)] := by
    rw [e4]
    have := At.new (w.alloc (.cells #[.pointer (some ⟨R, 0, none⟩)] 48)) 3 [.int .i64 (at' : Int)]
    rw [World.size_alloc] at this
    exact this
  have hmf : ∀ (fn : Fn) (first cap : Array Value) (w : World), (Instr.makeFunc fn first cap).run Try.prog w = .ok (.func fn first cap) w := fun _ _ _ _ => rfl
  have C := hide (hG W4 hb4 (h.below hb4))
  have E4 := hide e4
  have HB4 := hide hb4
  have HA1 := hide hA1
  have HA2 := hide hA2
  clear hG h e4 hb4 hA1 hA2
  go_enter_defers Try.func139, Try.ntmps139
  go_upto_region 5 with ((go_at_call 116; refine (H.out _ hb.out).mono ?_; rintro e w1 ⟨rfl, rfl⟩))
  rw [← E4.out]
  cases out with
  | inl code =>
    go_wp2_with ((go_at_call 140; refine (C.out).mono ?_; rintro e w1 ⟨rfl, ⟨p, hr⟩, hf⟩))
    have k1 : w1.cell? ⟨w.heap.size, 0, none⟩ = some (.pointer (some ⟨R, 0, none⟩)) := (hf.cell (p := ⟨w.heap.size, 0, none⟩) HA1.out.lt (fun h => by have : w.heap.size = R := h; omega)).trans (HA1.out.cell 0)
    have k2 : w1.cell? ⟨w.heap.size + 1, 0, none⟩ = some (.int .i64 (at' : Int)) := (hf.cell (p := ⟨w.heap.size + 1, 0, none⟩) HA2.out.lt (fun h => by have : w.heap.size + 1 = R := h; omega)).trans (HA2.out.cell 0)
    refine leaves_cons (f := 194) (args := #[.pointer (some ⟨w.heap.size, 0, none⟩), .pointer (some ⟨w.heap.size + 1, 0, none⟩)]) (by simp) (by simp [go_sem]) ?_
    refine (catch_pace w.heap.size (w.heap.size + 1) w1 R a c bs p 0 0 code at' hr k1 k2).mono ?_
    rintro e u' w'' ⟨rfl, rfl, hR, hF⟩
    exact ⟨_, results_tmp rfl _ _ _, rfl, ⟨p, hR⟩, ((Fr.of_below HB4.out).trans hf).trans hF⟩
  | inr x =>
    go_wp2_with ((go_at_call 140; refine (C.out).mono ?_; rintro e w1 ⟨v, rfl, hv, hr, hf⟩))
    refine leaves_cons (f := 194) (args := #[.pointer (some ⟨w.heap.size, 0, none⟩), .pointer (some ⟨w.heap.size + 1, 0, none⟩)]) (by simp) (by simp [go_sem]) ?_
    refine (idle_pace _ _ w1).mono ?_
    rintro e u' w'' ⟨rfl, rfl, rfl⟩
    exact ⟨_, results_tmp rfl _ _ _, v, rfl, hv, hr, (Fr.of_below HB4.out).trans hf⟩
theorem idle_text (p q : Addr) (w : World) :
    CallsD Try.prog 187 #[.pointer (some p), .pointer (some q)] .returning w fun e u' w' => e = .returned (.tuple #[]) ∧ u' = .returning ∧ w' = w := by
  refine callsD_of_wpS Try.func187 rfl fun c₀ cs hu => ?_
  apply wpS_seq
  apply wpS_region
  simp [wpOpsS, go_sem, recoverD, hu, Try.ntmps187, Exit.thenS]
  refine wpS_of_wp ?_
  go_wp2
  cases c₀
  simp_all [bodyPostS, results, Try.results187]
set_option maxRecDepth 8000 in
set_option maxHeartbeats 1000000 in
theorem catch_text (p q : Nat) (w : World) (R : Nat) (a : Option Addr) (c : Nat) (bs : List Int) (at' : Nat) (fe fa code fr : Int) (h : RSt w R a c bs at' fe fa)
    (hp0 : w.cell? ⟨p, 0, none⟩ = some (.pointer (some ⟨R, 0, none⟩))) (hq0 : w.cell? ⟨q, 0, none⟩ = some (.int .i64 fr)) :
    CallsD Try.prog 187 #[.pointer (some ⟨p, 0, none⟩), .pointer (some ⟨q, 0, none⟩)] (.panicking (hp code)) w fun e u' w' => e = .returned (.tuple #[]) ∧ u' = .panicking (hp2 code) ∧ RSt w' R a c bs at' code fr ∧ Fr (Xr R) w w' := by
  have H := hide (halted_any w R a c bs at' fe fa code fr h)
  clear h
  refine callsD_of_wpS Try.func187 rfl fun c₀ cs hu => ?_
  apply wpS_seq
  apply wpS_region
  simp [wpOpsS, go_sem, recoverD, hu, hp, Try.ntmps187, Exit.thenS]
  refine wpS_of_wp ?_
  go_wp2_with ((go_at_call 184; refine (H.out).mono ?_; rintro e w1 ⟨rfl, h2⟩; have HH := hide h2; clear h2))
  exact ⟨rfl, _, rfl, _, by simp [results, Try.results187], rfl, rfl, HH.out⟩
theorem read_none_text (w : World) (p : Option Addr) (fv : Value) (h : NoR w p) (hp : ∀ S, p = some ⟨S, 0, none⟩ → S < w.heap.size) : Calls Try.prog 120 #[.pointer p, fv] w fun e w' => e = .returned (.string ⟨#[]⟩) ∧ Below w.heap.size w w' := by
  have H := hide (fun W (hb : Below w.heap.size w W) => reads_none W p (by
    rcases h with rfl | ⟨S, rfl, hc⟩
    · exact .inl rfl
    · exact .inr ⟨S, rfl, (hb.cell (hp S rfl)).trans hc⟩))
  have hmf : ∀ (fn : Fn) (first cap : Array Value) (w : World), (Instr.makeFunc fn first cap).run Try.prog w = .ok (.func fn first cap) w := fun _ _ _ _ => rfl
  have hb := hide (show Below w.heap.size w (w.alloc (.cells #[.pointer p] 48)) from Below.alloc (Below.refl _ _) (Nat.le_refl _) _)
  clear h hp
  go_enter_defers Try.func120, Try.ntmps120
  go_wp2_with ((go_at_call 116; refine (H.out _ hb.out).mono ?_; rintro e w1 ⟨rfl, rfl⟩))
  exact ⟨_, results_tmp rfl _ _ _, rfl, hb.out⟩
theorem read_fault_text (w : World) (R : Nat) (a : Option Addr) (c : Nat) (bs : List Int) (at' : Nat) (fe fa : Int) (fv : Value) (h : RSt w R a c bs at' fe fa) (he : fe ≠ 0) : Calls Try.prog 120 #[.pointer (some ⟨R, 0, none⟩), fv] w fun e w' => e = .returned (.string ⟨#[]⟩) ∧ Below w.heap.size w w' := by
  have H := hide (fun W (hb : Below w.heap.size w W) => reads_any W R a c bs at' fe fa (h.below hb))
  have e0 : (fe == 0) = false := by simpa using he
  have hb := hide (show Below w.heap.size w (w.alloc (.cells #[.pointer (some ⟨R, 0, none⟩)] 48)) from Below.alloc (Below.refl _ _) (Nat.le_refl _) _)
  rw [e0] at H
  clear h he e0
  go_enter_defers Try.func120, Try.ntmps120
  go_wp2_with ((go_at_call 116; refine (H.out _ hb.out).mono ?_; rintro e w1 ⟨rfl, rfl⟩))
  exact ⟨_, results_tmp rfl _ _ _, rfl, hb.out⟩
set_option maxRecDepth 8000 in
set_option maxHeartbeats 1000000 in
theorem read_text (w : World) (R : Nat) (a : Option Addr) (c : Nat) (bs : List Int) (at' : Nat) (X Y : Value) (out : Out) (h : RSt w R a c bs at' 0 0)
    (hG : ∀ W, Below w.heap.size w W → RSt W R a c bs at' 0 0 → Calls Try.prog 121 #[X, Y] W (ElemPost W R a c bs out)) :
    Calls Try.prog 120 #[.pointer (some ⟨R, 0, none⟩), .func (.func 121) #[] #[X, Y]] w (ReadPost w R a c bs at' (.string ⟨#[]⟩) out) := by
  have hlt := h.lt
  have H := hide (fun W (hb : Below w.heap.size w W) => reads_any W R a c bs at' 0 0 (h.below hb))
  have hb := hide (show Below w.heap.size w (w.alloc (.cells #[.pointer (some ⟨R, 0, none⟩)] 48)) from Below.alloc (Below.refl _ _) (Nat.le_refl _) _)
  have c2 : w.cell? ⟨R, 2, none⟩ = some (.int .i64 (at' : Int)) := by rw [h.cell.cell]; rfl
  obtain ⟨W4, e4⟩ : ∃ X, X = (w.alloc (.cells #[.pointer (some ⟨R, 0, none⟩)] 48)).alloc (.cells #[.int .i64 (at' : Int)] 3) := ⟨_, rfl⟩
  have hb4 : Below w.heap.size w W4 := by rw [e4]; exact Below.alloc (Below.alloc (Below.refl _ _) (Nat.le_refl _) _) (by simp) _
  have hA1 : At W4 w.heap.size 48 [.pointer (some ⟨R, 0, none⟩)] := by rw [e4]; exact At.alloc (At.new w _ [_]) _
  have hA2 : At W4 (w.heap.size + 1) 3 [.int .i64 (at' : Int)] := by
    rw [e4]
    have := At.new (w.alloc (.cells #[.pointer (some ⟨R, 0, none⟩)] 48)) 3 [.int .i64 (at' : Int)]
    rw [World.size_alloc] at this
    exact this
  have hmf : ∀ (fn : Fn) (first cap : Array Value) (w : World), (Instr.makeFunc fn first cap).run Try.prog w = .ok (.func fn first cap) w := fun _ _ _ _ => rfl
  have C := hide (hG W4 hb4 (h.below hb4))
  have E4 := hide e4
  have HB4 := hide hb4
  have HA1 := hide hA1
  have HA2 := hide hA2
  clear hG h e4 hb4 hA1 hA2
  go_enter_defers Try.func120, Try.ntmps120
  go_upto_region 5 with ((go_at_call 116; refine (H.out _ hb.out).mono ?_; rintro e w1 ⟨rfl, rfl⟩))
  rw [← E4.out]
  cases out with
  | inl code =>
    go_wp2_with ((go_at_call 121; refine (C.out).mono ?_; rintro e w1 ⟨rfl, ⟨p, hr⟩, hf⟩))
    have k1 : w1.cell? ⟨w.heap.size, 0, none⟩ = some (.pointer (some ⟨R, 0, none⟩)) := (hf.cell (p := ⟨w.heap.size, 0, none⟩) HA1.out.lt (fun h => by have : w.heap.size = R := h; omega)).trans (HA1.out.cell 0)
    have k2 : w1.cell? ⟨w.heap.size + 1, 0, none⟩ = some (.int .i64 (at' : Int)) := (hf.cell (p := ⟨w.heap.size + 1, 0, none⟩) HA2.out.lt (fun h => by have : w.heap.size + 1 = R := h; omega)).trans (HA2.out.cell 0)
    refine leaves_cons (f := 187) (args := #[.pointer (some ⟨w.heap.size, 0, none⟩), .pointer (some ⟨w.heap.size + 1, 0, none⟩)]) (by simp) (by simp [go_sem]) ?_
    refine (catch_text w.heap.size (w.heap.size + 1) w1 R a c bs p 0 0 code at' hr k1 k2).mono ?_
    rintro e u' w'' ⟨rfl, rfl, hR, hF⟩
    exact ⟨_, results_tmp rfl _ _ _, rfl, ⟨p, hR⟩, ((Fr.of_below HB4.out).trans hf).trans hF⟩
  | inr x =>
    go_wp2_with ((go_at_call 121; refine (C.out).mono ?_; rintro e w1 ⟨v, rfl, hv, hr, hf⟩))
    refine leaves_cons (f := 187) (args := #[.pointer (some ⟨w.heap.size, 0, none⟩), .pointer (some ⟨w.heap.size + 1, 0, none⟩)]) (by simp) (by simp [go_sem]) ?_
    refine (idle_text _ _ w1).mono ?_
    rintro e u' w'' ⟨rfl, rfl, rfl⟩
    exact ⟨_, results_tmp rfl _ _ _, v, rfl, hv, hr, (Fr.of_below HB4.out).trans hf⟩
theorem idle_bytes (p q : Addr) (w : World) :
    CallsD Try.prog 189 #[.pointer (some p), .pointer (some q)] .returning w fun e u' w' => e = .returned (.tuple #[]) ∧ u' = .returning ∧ w' = w := by
  refine callsD_of_wpS Try.func189 rfl fun c₀ cs hu => ?_
  apply wpS_seq
  apply wpS_region
  simp [wpOpsS, go_sem, recoverD, hu, Try.ntmps189, Exit.thenS]
  refine wpS_of_wp ?_
  go_wp2
  cases c₀
  simp_all [bodyPostS, results, Try.results189]
set_option maxRecDepth 8000 in
set_option maxHeartbeats 1000000 in
theorem catch_bytes (p q : Nat) (w : World) (R : Nat) (a : Option Addr) (c : Nat) (bs : List Int) (at' : Nat) (fe fa code fr : Int) (h : RSt w R a c bs at' fe fa)
    (hp0 : w.cell? ⟨p, 0, none⟩ = some (.pointer (some ⟨R, 0, none⟩))) (hq0 : w.cell? ⟨q, 0, none⟩ = some (.int .i64 fr)) :
    CallsD Try.prog 189 #[.pointer (some ⟨p, 0, none⟩), .pointer (some ⟨q, 0, none⟩)] (.panicking (hp code)) w fun e u' w' => e = .returned (.tuple #[]) ∧ u' = .panicking (hp2 code) ∧ RSt w' R a c bs at' code fr ∧ Fr (Xr R) w w' := by
  have H := hide (halted_any w R a c bs at' fe fa code fr h)
  clear h
  refine callsD_of_wpS Try.func189 rfl fun c₀ cs hu => ?_
  apply wpS_seq
  apply wpS_region
  simp [wpOpsS, go_sem, recoverD, hu, hp, Try.ntmps189, Exit.thenS]
  refine wpS_of_wp ?_
  go_wp2_with ((go_at_call 184; refine (H.out).mono ?_; rintro e w1 ⟨rfl, h2⟩; have HH := hide h2; clear h2))
  exact ⟨rfl, _, rfl, _, by simp [results, Try.results189], rfl, rfl, HH.out⟩
theorem read_none_bytes (w : World) (p : Option Addr) (fv : Value) (h : NoR w p) (hp : ∀ S, p = some ⟨S, 0, none⟩ → S < w.heap.size) : Calls Try.prog 124 #[.pointer p, fv] w fun e w' => e = .returned (.slice none 0 0) ∧ Below w.heap.size w w' := by
  have H := hide (fun W (hb : Below w.heap.size w W) => reads_none W p (by
    rcases h with rfl | ⟨S, rfl, hc⟩
    · exact .inl rfl
    · exact .inr ⟨S, rfl, (hb.cell (hp S rfl)).trans hc⟩))
  have hmf : ∀ (fn : Fn) (first cap : Array Value) (w : World), (Instr.makeFunc fn first cap).run Try.prog w = .ok (.func fn first cap) w := fun _ _ _ _ => rfl
  have hb := hide (show Below w.heap.size w (w.alloc (.cells #[.pointer p] 48)) from Below.alloc (Below.refl _ _) (Nat.le_refl _) _)
  clear h hp
  go_enter_defers Try.func124, Try.ntmps124
  go_wp2_with ((go_at_call 116; refine (H.out _ hb.out).mono ?_; rintro e w1 ⟨rfl, rfl⟩))
  exact ⟨_, results_tmp rfl _ _ _, rfl, hb.out⟩
theorem read_fault_bytes (w : World) (R : Nat) (a : Option Addr) (c : Nat) (bs : List Int) (at' : Nat) (fe fa : Int) (fv : Value) (h : RSt w R a c bs at' fe fa) (he : fe ≠ 0) : Calls Try.prog 124 #[.pointer (some ⟨R, 0, none⟩), fv] w fun e w' => e = .returned (.slice none 0 0) ∧ Below w.heap.size w w' := by
  have H := hide (fun W (hb : Below w.heap.size w W) => reads_any W R a c bs at' fe fa (h.below hb))
  have e0 : (fe == 0) = false := by simpa using he
  have hb := hide (show Below w.heap.size w (w.alloc (.cells #[.pointer (some ⟨R, 0, none⟩)] 48)) from Below.alloc (Below.refl _ _) (Nat.le_refl _) _)
  rw [e0] at H
  clear h he e0
  go_enter_defers Try.func124, Try.ntmps124
  go_wp2_with ((go_at_call 116; refine (H.out _ hb.out).mono ?_; rintro e w1 ⟨rfl, rfl⟩))
  exact ⟨_, results_tmp rfl _ _ _, rfl, hb.out⟩
set_option maxRecDepth 8000 in
set_option maxHeartbeats 1000000 in
theorem read_bytes (w : World) (R : Nat) (a : Option Addr) (c : Nat) (bs : List Int) (at' : Nat) (X Y : Value) (out : Out) (h : RSt w R a c bs at' 0 0)
    (hG : ∀ W, Below w.heap.size w W → RSt W R a c bs at' 0 0 → Calls Try.prog 125 #[X, Y] W (ElemPost W R a c bs out)) :
    Calls Try.prog 124 #[.pointer (some ⟨R, 0, none⟩), .func (.func 125) #[] #[X, Y]] w (ReadPost w R a c bs at' (.slice none 0 0) out) := by
  have hlt := h.lt
  have H := hide (fun W (hb : Below w.heap.size w W) => reads_any W R a c bs at' 0 0 (h.below hb))
  have hb := hide (show Below w.heap.size w (w.alloc (.cells #[.pointer (some ⟨R, 0, none⟩)] 48)) from Below.alloc (Below.refl _ _) (Nat.le_refl _) _)
  have c2 : w.cell? ⟨R, 2, none⟩ = some (.int .i64 (at' : Int)) := by rw [h.cell.cell]; rfl
  obtain ⟨W4, e4⟩ : ∃ X, X = (w.alloc (.cells #[.pointer (some ⟨R, 0, none⟩)] 48)).alloc (.cells #[.int .i64 (at' : Int)] 3) := ⟨_, rfl⟩
  have hb4 : Below w.heap.size w W4 := by rw [e4]; exact Below.alloc (Below.alloc (Below.refl _ _) (Nat.le_refl _) _) (by simp) _
  have hA1 : At W4 w.heap.size 48 [.pointer (some ⟨R, 0, none⟩)] := by rw [e4]; exact At.alloc (At.new w _ [_]) _
  have hA2 : At W4 (w.heap.size + 1) 3 [.int .i64 (at' : Int)] := by
    rw [e4]
    have := At.new (w.alloc (.cells #[.pointer (some ⟨R, 0, none⟩)] 48)) 3 [.int .i64 (at' : Int)]
    rw [World.size_alloc] at this
    exact this
  have hmf : ∀ (fn : Fn) (first cap : Array Value) (w : World), (Instr.makeFunc fn first cap).run Try.prog w = .ok (.func fn first cap) w := fun _ _ _ _ => rfl
  have C := hide (hG W4 hb4 (h.below hb4))
  have E4 := hide e4
  have HB4 := hide hb4
  have HA1 := hide hA1
  have HA2 := hide hA2
  clear hG h e4 hb4 hA1 hA2
  go_enter_defers Try.func124, Try.ntmps124
  go_upto_region 5 with ((go_at_call 116; refine (H.out _ hb.out).mono ?_; rintro e w1 ⟨rfl, rfl⟩))
  rw [← E4.out]
  cases out with
  | inl code =>
    go_wp2_with ((go_at_call 125; refine (C.out).mono ?_; rintro e w1 ⟨rfl, ⟨p, hr⟩, hf⟩))
    have k1 : w1.cell? ⟨w.heap.size, 0, none⟩ = some (.pointer (some ⟨R, 0, none⟩)) := (hf.cell (p := ⟨w.heap.size, 0, none⟩) HA1.out.lt (fun h => by have : w.heap.size = R := h; omega)).trans (HA1.out.cell 0)
    have k2 : w1.cell? ⟨w.heap.size + 1, 0, none⟩ = some (.int .i64 (at' : Int)) := (hf.cell (p := ⟨w.heap.size + 1, 0, none⟩) HA2.out.lt (fun h => by have : w.heap.size + 1 = R := h; omega)).trans (HA2.out.cell 0)
    refine leaves_cons (f := 189) (args := #[.pointer (some ⟨w.heap.size, 0, none⟩), .pointer (some ⟨w.heap.size + 1, 0, none⟩)]) (by simp) (by simp [go_sem]) ?_
    refine (catch_bytes w.heap.size (w.heap.size + 1) w1 R a c bs p 0 0 code at' hr k1 k2).mono ?_
    rintro e u' w'' ⟨rfl, rfl, hR, hF⟩
    exact ⟨_, results_tmp rfl _ _ _, rfl, ⟨p, hR⟩, ((Fr.of_below HB4.out).trans hf).trans hF⟩
  | inr x =>
    go_wp2_with ((go_at_call 125; refine (C.out).mono ?_; rintro e w1 ⟨v, rfl, hv, hr, hf⟩))
    refine leaves_cons (f := 189) (args := #[.pointer (some ⟨w.heap.size, 0, none⟩), .pointer (some ⟨w.heap.size + 1, 0, none⟩)]) (by simp) (by simp [go_sem]) ?_
    refine (idle_bytes _ _ w1).mono ?_
    rintro e u' w'' ⟨rfl, rfl, rfl⟩
    exact ⟨_, results_tmp rfl _ _ _, v, rfl, hv, hr, (Fr.of_below HB4.out).trans hf⟩
end WirI
end Go.Proofs.Ytplinpbmncccoaa
