/-
  The program's reader: a fault laid down, what is deferred, read.
-/
import Derived.Test.YtackcnncjeajpaaWirH
namespace Go.Proofs.Ytackcnncjeajpaa
namespace WirI
open Go.RowKit
open BlkM WirM WirS WirA WirB WirG WirH

set_option maxRecDepth 8000 in
theorem halted_any (w : World) (R : Nat) (a : Option Addr) (c : Nat) (bs : List Int) (at' : Nat) (fe fa code fr : Int) (h : RSt w R a c bs at' fe fa) :
    Calls Try.prog 173 #[.pointer (some ⟨R, 0, none⟩), .int .i64 fr, .iface 195 (.agg #[.int .i64 code])] w fun e w' => e = .returned (.tuple #[]) ∧ RSt w' R a c bs at' code fr ∧ Fr (Xr R) w w' := by
  have c3 : w.cell? ⟨R, 3, none⟩ = some (.int .i64 fe) := by rw [h.cell.cell]; rfl
  have c4 : w.cell? ⟨R, 4, none⟩ = some (.int .i64 fa) := by rw [h.cell.cell]; rfl
  have f3 : w.frozen? ⟨R, 3, none⟩ = false := h.cell.frozen 3
  have f4 : w.frozen? ⟨R, 4, none⟩ = false := h.cell.frozen 4
  have HF := hide (show Fr (Xr R) w ((w.setCell ⟨R, 3, none⟩ (.int .i64 code)).setCell ⟨R, 4, none⟩ (.int .i64 fr)) from ((Fr.refl (Xr R) w).setCell R 3 _ (fun _ => rfl)).setCell R 4 _ (fun _ => rfl))
  have HR := hide (show RSt ((w.setCell ⟨R, 3, none⟩ (.int .i64 code)).setCell ⟨R, 4, none⟩ (.int .i64 fr)) R a c bs at' code fr from
    ⟨(h.cell.setCell 3 _).setCell 4 _, h.bin.fr (X := Xr R) HF.out (fun k hk hx => h.off (by rw [hk, hx])), h.off, fun k hk => by simpa using h.olt k hk, h.le, h.small, h.bytes⟩)
  have hta : ∀ W : World, (Instr.typeAssert (.iface 195 (.agg #[.int .i64 code])) 20 195 false).run Try.prog W = .ok (.agg #[.int .i64 code]) W := fun W => by kernel_rfl
  have hfd : ∀ W : World, (Instr.field 195 (.agg #[.int .i64 code]) 0).run Try.prog W = .ok (.int .i64 code) W := fun W => by kernel_rfl
  clear h
  go_enter Try.func173, Try.ntmps173
  go_wp2
  first | go_end0 | refine bodyPost_ret (results_none rfl _ _ _) rfl ?_
  exact ⟨rfl, HR.out, HF.out⟩
/-- What an element is: an error, or what holds of its value, and the place behind it. -/
abbrev Out := Sum Int ((Value → World → Prop) × Nat)
def ElemPost (W : World) (R : Nat) (a : Option Addr) (c : Nat) (bs : List Int) (out : Out) (e : Ending) (w' : World) : Prop :=
  match out with
  | .inl code => Bad W R a c bs code e w'
  | .inr x => ∃ v, e = .returned v ∧ x.1 v w' ∧ RSt w' R a c bs x.2 0 0 ∧ Fr (Xr R) W w'
def ReadPost (w : World) (R : Nat) (a : Option Addr) (c : Nat) (bs : List Int) (at' : Nat) (zero : Value) (out : Out) (e : Ending) (w' : World) : Prop :=
  match out with
  | .inl code => e = .returned zero ∧ (∃ p, RSt w' R a c bs p code at') ∧ Fr (Xr R) w w'
  | .inr x => ∃ v, e = .returned v ∧ x.1 v w' ∧ RSt w' R a c bs x.2 0 0 ∧ Fr (Xr R) w w'
def hp2 (c : Int) : List PanicEntry := [{ v := .iface 195 (.agg #[.int .i64 c]), recovered := true }]
theorem idle_word (p q : Addr) (w : World) :
    CallsD Try.prog 182 #[.pointer (some p), .pointer (some q)] .returning w fun e u' w' => e = .returned (.tuple #[]) ∧ u' = .returning ∧ w' = w := by
  refine callsD_of_wpS Try.func182 rfl fun c₀ cs hu => ?_
  apply wpS_seq
  apply wpS_region
  simp [wpOpsS, go_sem, recoverD, hu, Try.ntmps182, Exit.thenS]
  refine wpS_of_wp ?_
  go_wp2
  cases c₀
  simp_all [bodyPostS, results, Try.results182]
set_option maxRecDepth 8000 in
set_option maxHeartbeats 1000000 in
theorem catch_word (p q : Nat) (w : World) (R : Nat) (a : Option Addr) (c : Nat) (bs : List Int) (at' : Nat) (fe fa code fr : Int) (h : RSt w R a c bs at' fe fa)
    (hp0 : w.cell? ⟨p, 0, none⟩ = some (.pointer (some ⟨R, 0, none⟩))) (hq0 : w.cell? ⟨q, 0, none⟩ = some (.int .i64 fr)) :
    CallsD Try.prog 182 #[.pointer (some ⟨p, 0, none⟩), .pointer (some ⟨q, 0, none⟩)] (.panicking (hp code)) w fun e u' w' => e = .returned (.tuple #[]) ∧ u' = .panicking (hp2 code) ∧ RSt w' R a c bs at' code fr ∧ Fr (Xr R) w w' := by
  have H := hide (halted_any w R a c bs at' fe fa code fr h)
  clear h
  refine callsD_of_wpS Try.func182 rfl fun c₀ cs hu => ?_
  apply wpS_seq
  apply wpS_region
  simp [wpOpsS, go_sem, recoverD, hu, hp, Try.ntmps182, Exit.thenS]
  refine wpS_of_wp ?_
  go_wp2_with ((go_at_call 173; refine (H.out).mono ?_; rintro e w1 ⟨rfl, h2⟩; have HH := hide h2; clear h2))
  exact ⟨rfl, _, rfl, _, by simp [results, Try.results182], rfl, rfl, HH.out⟩
theorem read_none_word (w : World) (p : Option Addr) (fv : Value) (h : NoR w p) (hp : ∀ S, p = some ⟨S, 0, none⟩ → S < w.heap.size) : Calls Try.prog 126 #[.pointer p, fv] w fun e w' => e = .returned (.int .u64 0) ∧ Below w.heap.size w w' := by
  have H := hide (fun W (hb : Below w.heap.size w W) => reads_none W p (by
    rcases h with rfl | ⟨S, rfl, hc⟩
    · exact .inl rfl
    · exact .inr ⟨S, rfl, (hb.cell (hp S rfl)).trans hc⟩))
  have hmf : ∀ (fn : Fn) (first cap : Array Value) (w : World), (Instr.makeFunc fn first cap).run Try.prog w = .ok (.func fn first cap) w := fun _ _ _ _ => rfl
  have hb := hide (show Below w.heap.size w (w.alloc (.cells #[.pointer p] 48)) from Below.alloc (Below.refl _ _) (Nat.le_refl _) _)
  clear h hp
  go_enter_defers Try.func126, Try.ntmps126
  go_wp2_with ((go_at_call 107; refine (H.out _ hb.out).mono ?_; rintro e w1 ⟨rfl, rfl⟩))
  exact ⟨_, results_tmp rfl _ _ _, rfl, hb.out⟩
theorem read_fault_word (w : World) (R : Nat) (a : Option Addr) (c : Nat) (bs : List Int) (at' : Nat) (fe fa : Int) (fv : Value) (h : RSt w R a c bs at' fe fa) (he : fe ≠ 0) : Calls Try.prog 126 #[.pointer (some ⟨R, 0, none⟩), fv] w fun e w' => e = .returned (.int .u64 0) ∧ Below w.heap.size w w' := by
  have H := hide (fun W (hb : Below w.heap.size w W) => reads_any W R a c bs at' fe fa (h.below hb))
  have e0 : (fe == 0) = false := by simpa using he
  have hb := hide (show Below w.heap.size w (w.alloc (.cells #[.pointer (some ⟨R, 0, none⟩)] 48)) from Below.alloc (Below.refl _ _) (Nat.le_refl _) _)
  rw [e0] at H
  clear h he e0
  go_enter_defers Try.func126, Try.ntmps126
  go_wp2_with ((go_at_call 107; refine (H.out _ hb.out).mono ?_; rintro e w1 ⟨rfl, rfl⟩))
  exact ⟨_, results_tmp rfl _ _ _, rfl, hb.out⟩
set_option maxRecDepth 8000 in
set_option maxHeartbeats 1000000 in
theorem read_word (w : World) (R : Nat) (a : Option Addr) (c : Nat) (bs : List Int) (at' : Nat) (X : Value) (out : Out) (h : RSt w R a c bs at' 0 0)
    (hG : ∀ W, Below w.heap.size w W → RSt W R a c bs at' 0 0 → Calls Try.prog 127 #[X] W (ElemPost W R a c bs out)) :
    Calls Try.prog 126 #[.pointer (some ⟨R, 0, none⟩), .func (.func 127) #[] #[X]] w (ReadPost w R a c bs at' (.int .u64 0) out) := by
  have hlt := h.lt
  have H := hide (fun W (hb : Below w.heap.size w W) => reads_any W R a c bs at' 0 0 (h.below hb))
  have hb := hide (show Below w.heap.size w (w.alloc (.cells #[.pointer (some ⟨R, 0, none⟩)] 48)) from Below.alloc (Below.refl _ _) (Nat.le_refl _) _)
  have c2 : w.cell? ⟨R, 2, none⟩ = some (.int .i64 (at' : Int)) := by rw [h.cell.cell]; rfl
  obtain ⟨W4, e4⟩ : ∃ X, X = (w.alloc (.cells #[.pointer (some ⟨R, 0, none⟩)] 48)).alloc (.cells #[.int .i64 (at' : Int)] 3) := ⟨_, rfl⟩
  have hb4 : Below w.heap.size w W4 := by rw [e4]; exact Below.alloc (Below.alloc (Below.refl _ _) (Nat.le_refl _) _) (by simp) _
  have hA1 : At W4 w.heap.size 48 [.pointer (some ⟨R, 0, none⟩)] := by rw [e4]; exact At.alloc (At.new w _ [_]) _
  have hA2 : At W4 (w.heap.size + 1) 3 [.int .i64 (at' : Int)] := by
    rw [e4]
    have := At.new (w.alloc (.cells #[.pointer (some ⟨R, 0, none⟩)] 48)) 3 [.int .i64 (at' : Int)]
    rw [World.size_alloc] at this
    exact this
  have hmf : ∀ (fn : Fn) (first cap : Array Value) (w : World), (Instr.makeFunc fn first cap).run Try.prog w = .ok (.func fn first cap) w := fun _ _ _ _ => rfl
  have C := hide (hG W4 hb4 (h.below hb4))
  have E4 := hide e4
  have HB4 := hide hb4
  have HA1 := hide hA1
  have HA2 := hide hA2
  clear hG h e4 hb4 hA1 hA2
  go_enter_defers Try.func126, Try.ntmps126
  go_upto_region 5 with ((go_at_call 107; refine (H.out _ hb.out).mono ?_; rintro e w1 ⟨rfl, rfl⟩))
  rw [← E4.out]
  cases out with
  | inl code =>
    go_wp2_with ((go_at_call 127; refine (C.out).mono ?_; rintro e w1 ⟨rfl, ⟨p, hr⟩, hf⟩))
    have k1 : w1.cell? ⟨w.heap.size, 0, none⟩ = some (.pointer (some ⟨R, 0, none⟩)) := (hf.cell (p := ⟨w.heap.size, 0, none⟩) HA1.out.lt (fun h => by have : w.heap.size = R := h; omega)).trans (HA1.out.cell 0)
    have k2 : w1.cell? ⟨w.heap.size + 1, 0, none⟩ = some (.int .i64 (at' : Int)) := (hf.cell (p := ⟨w.heap.size + 1, 0, none⟩) HA2.out.lt (fun h => by have : w.heap.size + 1 = R := h; omega)).trans (HA2.out.cell 0)
    refine leaves_cons (f := 182) (args := #[.pointer (some ⟨w.heap.size, 0, none⟩), .pointer (some ⟨w.heap.size + 1, 0, none⟩)]) (by simp) (by simp [go_sem]) ?_
    refine (catch_word w.heap.size (w.heap.size + 1) w1 R a c bs p 0 0 code at' hr k1 k2).mono ?_
    rintro e u' w'' ⟨rfl, rfl, hR, hF⟩
    exact ⟨_, results_tmp rfl _ _ _, rfl, ⟨p, hR⟩, ((Fr.of_below HB4.out).trans hf).trans hF⟩
  | inr x =>
    go_wp2_with ((go_at_call 127; refine (C.out).mono ?_; rintro e w1 ⟨v, rfl, hv, hr, hf⟩))
    refine leaves_cons (f := 182) (args := #[.pointer (some ⟨w.heap.size, 0, none⟩), .pointer (some ⟨w.heap.size + 1, 0, none⟩)]) (by simp) (by simp [go_sem]) ?_
    refine (idle_word _ _ w1).mono ?_
    rintro e u' w'' ⟨rfl, rfl, rfl⟩
    exact ⟨_, results_tmp rfl _ _ _, v, rfl, hv, hr, (Fr.of_below HB4.out).trans hf⟩
theorem idle_int (p q : Addr) (w : World) :
    CallsD Try.prog 172 #[.pointer (some p), .pointer (some q)] .returning w fun e u' w' => e = .returned (.tuple #[]) ∧ u' = .returning ∧ w' = w := by
  refine callsD_of_wpS Try.func172 rfl fun c₀ cs hu => ?_
  apply wpS_seq
  apply wpS_region
  simp [wpOpsS, go_sem, recoverD, hu, Try.ntmps172, Exit.thenS]
  refine wpS_of_wp ?_
  go_wp2
  cases c₀
  simp_all [bodyPostS, results, Try.results172]
set_option maxRecDepth 8000 in
set_option maxHeartbeats 1000000 in
theorem catch_int (p q : Nat) (w : World) (R : Nat) (a : Option Addr) (c : Nat) (bs : List Int) (at' : Nat) (fe fa code fr : Int) (h : RSt w R a c bs at' fe fa)
    (hp0 : w.cell? ⟨p, 0, none⟩ = some (.pointer (some ⟨R, 0, none⟩))) (hq0 : w.cell? ⟨q, 0, none⟩ = some (.int .i64 fr)) :
    CallsD Try.prog 172 #[.pointer (some ⟨p, 0, none⟩), .pointer (some ⟨q, 0, none⟩)] (.panicking (hp code)) w fun e u' w' => e = .returned (.tuple #[]) ∧ u' = .panicking (hp2 code) ∧ RSt w' R a c bs at' code fr ∧ Fr (Xr R) w w' := by
  have H := hide (halted_any w R a c bs at' fe fa code fr h)
  clear h
  refine callsD_of_wpS Try.func172 rfl fun c₀ cs hu => ?_
  apply wpS_seq
  apply wpS_region
  simp [wpOpsS, go_sem, recoverD, hu, hp, Try.ntmps172, Exit.thenS]
  refine wpS_of_wp ?_
  go_wp2_with ((go_at_call 173; refine (H.out).mono ?_; rintro e w1 ⟨rfl, h2⟩; have HH := hide h2; clear h2))
  exact ⟨rfl, _, rfl, _, by simp [results, Try.results172], rfl, rfl, HH.out⟩
theorem read_none_int (w : World) (p : Option Addr) (fv : Value) (h : NoR w p) (hp : ∀ S, p = some ⟨S, 0, none⟩ → S < w.heap.size) : Calls Try.prog 109 #[.pointer p, fv] w fun e w' => e = .returned (.int .i64 0) ∧ Below w.heap.size w w' := by
  have H := hide (fun W (hb : Below w.heap.size w W) => reads_none W p (by
    rcases h with rfl | ⟨S, rfl, hc⟩
    · exact .inl rfl
    · exact .inr ⟨S, rfl, (hb.cell (hp S rfl)).trans hc⟩))
  have hmf : ∀ (fn : Fn) (first cap : Array Value) (w : World), (Instr.makeFunc fn first cap).run Try.prog w = .ok (.func fn first cap) w := fun _ _ _ _ => rfl
  have hb := hide (show Below w.heap.size w (w.alloc (.cells #[.pointer p] 48)) from Below.alloc (Below.refl _ _) (Nat.le_refl _) _)
  clear h hp
  go_enter_defers Try.func109, Try.ntmps109
  go_wp2_with ((go_at_call 107; refine (H.out _ hb.out).mono ?_; rintro e w1 ⟨rfl, rfl⟩))
  exact ⟨_, results_tmp rfl _ _ _, rfl, hb.out⟩
theorem read_fault_int (w : World) (R : Nat) (a : Option Addr) (c : Nat) (bs : List Int) (at' : Nat) (fe fa : Int) (fv : Value) (h : RSt w R a c bs at' fe fa) (he : fe ≠ 0) : Calls Try.prog 109 #[.pointer (some ⟨R, 0, none⟩), fv] w fun e w' => e = .returned (.int .i64 0) ∧ Below w.heap.size w w' := by
  have H := hide (fun W (hb : Below w.heap.size w W) => reads_any W R a c bs at' fe fa (h.below hb))
  have e0 : (fe == 0) = false := by simpa using he
  have hb := hide (show Below w.heap.size w (w.alloc (.cells #[.pointer (some ⟨R, 0, none⟩)] 48)) from Below.alloc (Below.refl _ _) (Nat.le_refl _) _)
  rw [e0] at H
  clear h he e0
  go_enter_defers Try.func109, Try.ntmps109
  go_wp2_with ((go_at_call 107; refine (H.out _ hb.out).mono ?_; rintro e w1 ⟨rfl, rfl⟩))
  exact ⟨_, results_tmp rfl _ _ _, rfl, hb.out⟩
set_option maxRecDepth 8000 in
set_option maxHeartbeats 1000000 in
theorem read_int (w : World) (R : Nat) (a : Option Addr) (c : Nat) (bs : List Int) (at' : Nat) (X : Value) (out : Out) (h : RSt w R a c bs at' 0 0)
    (hG : ∀ W, Below w.heap.size w W → RSt W R a c bs at' 0 0 → Calls Try.prog 110 #[X] W (ElemPost W R a c bs out)) :
    Calls Try.prog 109 #[.pointer (some ⟨R, 0, none⟩), .func (.func 110) #[X] #[]] w (ReadPost w R a c bs at' (.int .i64 0) out) := by
  have hlt := h.lt
  have H := hide (fun W (hb : Below w.heap.size w W) => reads_any W R a c bs at' 0 0 (h.below hb))
  have hb := hide (show Below w.heap.size w (w.alloc (.cells #[.pointer (some ⟨R, 0, none⟩)] 48)) from Below.alloc (Below.refl _ _) (Nat.le_refl _) _)
  have c2 : w.cell? ⟨R, 2, none⟩ = some (.int .i64 (at' : Int)) := by rw [h.cell.cell]; rfl
  obtain ⟨W4, e4⟩ : ∃ X, X = (w.alloc (.cells #[.pointer (some ⟨R, 0, none⟩)] 48)).alloc (.cells #[.int .i64 (at' : Int)] 3) := ⟨_, rfl⟩
  have hb4 : Below w.heap.size w W4 := by rw [e4]; exact Below.alloc (Below.alloc (Below.refl _ _) (Nat.le_refl _) _) (by simp) _
  have hA1 : At W4 w.heap.size 48 [.pointer (some ⟨R, 0, none⟩)] := by rw [e4]; exact At.alloc (At.new w _ [_]) _
  have hA2 : At W4 (w.heap.size + 1) 3 [.int .i64 (at' : Int)] := by
    rw [e4]
    have := At.new (w.alloc (.cells #[.pointer (some ⟨R, 0, none⟩)] 48)) 3 [.int .i64 (at' : Int)]
    rw [World.size_alloc] at this
    exact this
  have hmf : ∀ (fn : Fn) (first cap : Array Value) (w : World), (Instr.makeFunc fn first cap).run Try.prog w = .ok (.func fn first cap) w := fun _ _ _ _ => rfl
  have C := hide (hG W4 hb4 (h.below hb4))
  have E4 := hide e4
  have HB4 := hide hb4
  have HA1 := hide hA1
  have HA2 := hide hA2
  clear hG h e4 hb4 hA1 hA2
  go_enter_defers Try.func109, Try.ntmps109
  go_upto_region 5 with ((go_at_call 107; refine (H.out _ hb.out).mono ?_; rintro e w1 ⟨rfl, rfl⟩))
  rw [← E4.out]
  cases out with
  | inl code =>
    go_wp2_with ((go_at_call 110; refine (C.out).mono ?_; rintro e w1 ⟨rfl, ⟨p, hr⟩, hf⟩))
    have k1 : w1.cell? ⟨w.heap.size, 0, none⟩ = some (.pointer (some ⟨R, 0, none⟩)) := (hf.cell (p := ⟨w.heap.size, 0, none⟩) HA1.out.lt (fun h => by have : w.heap.size = R := h; omega)).trans (HA1.out.cell 0)
    have k2 : w1.cell? ⟨w.heap.size + 1, 0, none⟩ = some (.int .i64 (at' : Int)) := (hf.cell (p := ⟨w.heap.size + 1, 0, none⟩) HA2.out.lt (fun h => by have : w.heap.size + 1 = R := h; omega)).trans (HA2.out.cell 0)
    refine leaves_cons (f := 172) (args := #[.pointer (some ⟨w.heap.size, 0, none⟩), .pointer (some ⟨w.heap.size + 1, 0, none⟩)]) (by simp) (by simp [go_sem]) ?_
    refine (catch_int w.heap.size (w.heap.size + 1) w1 R a c bs p 0 0 code at' hr k1 k2).mono ?_
    rintro e u' w'' ⟨rfl, rfl, hR, hF⟩
    exact ⟨_, results_tmp rfl _ _ _, rfl, ⟨p, hR⟩, ((Fr.of_below HB4.out).trans hf).trans hF⟩
  | inr x =>
    go_wp2_with ((go_at_call 110; refine (C.out).mono ?_; rintro e w1 ⟨v, rfl, hv, hr, hf⟩))
    refine leaves_cons (f := 172) (args := #[.pointer (some ⟨w.heap.size, 0, none⟩), .pointer (some ⟨w.heap.size + 1, 0, none⟩)]) (by simp) (by simp [go_sem]) ?_
    refine (idle_int _ _ w1).mono ?_
    rintro e u' w'' ⟨rfl, rfl, rfl⟩
    exact ⟨_, results_tmp rfl _ _ _, v, rfl, hv, hr, (Fr.of_below HB4.out).trans hf⟩
theorem idle_bool (p q : Addr) (w : World) :
    CallsD Try.prog 185 #[.pointer (some p), .pointer (some q)] .returning w fun e u' w' => e = .returned (.tuple #[]) ∧ u' = .returning ∧ w' = w := by
  refine callsD_of_wpS Try.func185 rfl fun c₀ cs hu => ?_
  apply wpS_seq
  apply wpS_region
  simp [wpOpsS, go_sem, recoverD, hu, Try.ntmps185, Exit.thenS]
  refine wpS_of_wp ?_
  go_wp2
  cases c₀
  simp_all [bodyPostS, results, Try.results185]
set_option maxRecDepth 8000 in
set_option maxHeartbeats 1000000 in
theorem catch_bool (p q : Nat) (w : World) (R : Nat) (a : Option Addr) (c : Nat) (bs : List Int) (at' : Nat) (fe fa code fr : Int) (h : RSt w R a c bs at' fe fa)
    (hp0 : w.cell? ⟨p, 0, none⟩ = some (.pointer (some ⟨R, 0, none⟩))) (hq0 : w.cell? ⟨q, 0, none⟩ = some (.int .i64 fr)) :
    CallsD Try.prog 185 #[.pointer (some ⟨p, 0, none⟩), .pointer (some ⟨q, 0, none⟩)] (.panicking (hp code)) w fun e u' w' => e = .returned (.tuple #[]) ∧ u' = .panicking (hp2 code) ∧ RSt w' R a c bs at' code fr ∧ Fr (Xr R) w w' := by
  have H := hide (halted_any w R a c bs at' fe fa code fr h)
  clear h
  refine callsD_of_wpS Try.func185 rfl fun c₀ cs hu => ?_
  apply wpS_seq
  apply wpS_region
  simp [wpOpsS, go_sem, recoverD, hu, hp, Try.ntmps185, Exit.thenS]
  refine wpS_of_wp ?_
  go_wp2_with ((go_at_call 173; refine (H.out).mono ?_; rintro e w1 ⟨rfl, h2⟩; have HH := hide h2; clear h2))
  exact ⟨rfl, _, rfl, _, by simp [results, Try.results185], rfl, rfl, HH.out⟩
theorem read_none_bool (w : World) (p : Option Addr) (fv : Value) (h : NoR w p) (hp : ∀ S, p = some ⟨S, 0, none⟩ → S < w.heap.size) : Calls Try.prog 134 #[.pointer p, fv] w fun e w' => e = .returned (.bool false) ∧ Below w.heap.size w w' := by
  have H := hide (fun W (hb : Below w.heap.size w W) => reads_none W p (by
    rcases h with rfl | ⟨S, rfl, hc⟩
    · exact .inl rfl
    · exact .inr ⟨S, rfl, (hb.cell (hp S rfl)).trans hc⟩))
  have hmf : ∀ (fn : Fn) (first cap : Array Value) (w : World), (Instr.makeFunc fn first cap).run Try.prog w = .ok (.func fn first cap) w := fun _ _ _ _ => rfl
  have hb := hide (show Below w.heap.size w (w.alloc (.cells #[.pointer p] 48)) from Below.alloc (Below.refl _ _) (Nat.le_refl _) _)
  clear h hp
  go_enter_defers Try.func134, Try.ntmps134
  go_wp2_with ((go_at_call 107; refine (H.out _ hb.out).mono ?_; rintro e w1 ⟨rfl, rfl⟩))
  exact ⟨_, results_tmp rfl _ _ _, rfl, hb.out⟩
theorem read_fault_bool (w : World) (R : Nat) (a : Option Addr) (c : Nat) (bs : List Int) (at' : Nat) (fe fa : Int) (fv : Value) (h : RSt w R a c bs at' fe fa) (he : fe ≠ 0) : Calls Try.prog 134 #[.pointer (some ⟨R, 0, none⟩), fv] w fun e w' => e = .returned (.bool false) ∧ Below w.heap.size w w' := by
  have H := hide (fun W (hb : Below w.heap.size w W) => reads_any W R a c bs at' fe fa (h.below hb))
  have e0 : (fe == 0) = false := by simpa using he
  have hb := hide (show Below w.heap.size w (w.alloc (.cells #[.pointer (some ⟨R, 0, none⟩)] 48)) from Below.alloc (Below.refl _ _) (Nat.le_refl _) _)
  rw [e0] at H
  clear h he e0
  go_enter_defers Try.func134, Try.ntmps134
  go_wp2_with ((go_at_call 107; refine (H.out _ hb.out).mono ?_; rintro e w1 ⟨rfl, rfl⟩))
  exact ⟨_, results_tmp rfl _ _ _, rfl, hb.out⟩
set_option maxRecDepth 8000 in
set_option maxHeartbeats 1000000 in
theorem read_bool (w : World) (R : Nat) (a : Option Addr) (c : Nat) (bs : List Int) (at' : Nat) (X : Value) (out : Out) (h : RSt w R a c bs at' 0 0)
    (hG : ∀ W, Below w.heap.size w W → RSt W R a c bs at' 0 0 → Calls Try.prog 135 #[X] W (ElemPost W R a c bs out)) :
    Calls Try.prog 134 #[.pointer (some ⟨R, 0, none⟩), .func (.func 135) #[] #[X]] w (ReadPost w R a c bs at' (.bool false) out) := by
  have hlt := h.lt
  have H := hide (fun W (hb : Below w.heap.size w W) => reads_any W R a c bs at' 0 0 (h.below hb))
  have hb := hide (show Below w.heap.size w (w.alloc (.cells #[.pointer (some ⟨R, 0, none⟩)] 48)) from Below.alloc (Below.refl _ _) (Nat.le_refl _) _)
  have c2 : w.cell? ⟨R, 2, none⟩ = some (.int .i64 (at' : Int)) := by rw [h.cell.cell]; rfl
  obtain ⟨W4, e4⟩ : ∃ X, X = (w.alloc (.cells #[.pointer (some ⟨R, 0, none⟩)] 48)).alloc (.cells #[.int .i64 (at' : Int)] 3) := ⟨_, rfl⟩
  have hb4 : Below w.heap.size w W4 := by rw [e4]; exact Below.alloc (Below.alloc (Below.refl _ _) (Nat.le_refl _) _) (by simp) _
  have hA1 : At W4 w.heap.size 48 [.pointer (some ⟨R, 0, none⟩)] := by rw [e4]; exact At.alloc (At.new w _ [_]) _
  have hA2 : At W4 (w.heap.size + 1) 3 [.int .i64 (at' : Int)] := by
    rw [e4]
    have := At.new (w.alloc (.cells #[.pointer (some ⟨R, 0, none⟩)] 48)) 3 [.int .i64 (at' : Int)]
    rw [World.size_alloc] at this
    exact this
  have hmf : ∀ (fn : Fn) (first cap : Array Value) (w : World), (Instr.makeFunc fn first cap).run Try.prog w = .ok (.func fn first cap) w := fun _ _ _ _ => rfl
  have C := hide (hG W4 hb4 (h.below hb4))
  have E4 := hide e4
  have HB4 := hide hb4
  have HA1 := hide hA1
  have HA2 := hide hA2
  clear hG h e4 hb4 hA1 hA2
  go_enter_defers Try.func134, Try.ntmps134
  go_upto_region 5 with ((go_at_call 107; refine (H.out _ hb.out).mono ?_; rintro e w1 ⟨rfl, rfl⟩))
  rw [← E4.out]
  cases out with
  | inl code =>
    go_wp2_with ((go_at_call 135; refine (C.out).mono ?_; rintro e w1 ⟨rfl, ⟨p, hr⟩, hf⟩))
    have k1 : w1.cell? ⟨w.heap.size, 0, none⟩ = some (.pointer (some ⟨R, 0, none⟩)) := (hf.cell (p := ⟨w.heap.size, 0, none⟩) HA1.out.lt (fun h => by have : w.heap.size = R := h; omega)).trans (HA1.out.cell 0)
    have k2 : w1.cell? ⟨w.heap.size + 1, 0, none⟩ = some (.int .i64 (at' : Int)) := (hf.cell (p := ⟨w.heap.size + 1, 0, none⟩) HA2.out.lt (fun h => by have : w.heap.size + 1 = R := h; omega)).trans (HA2.out.cell 0)
    refine leaves_cons (f := 185) (args := #[.pointer (some ⟨w.heap.size, 0, none⟩), .pointer (some ⟨w.heap.size + 1, 0, none⟩)]) (by simp) (by simp [go_sem]) ?_
    refine (catch_bool w.heap.size (w.heap.size + 1) w1 R a c bs p 0 0 code at' hr k1 k2).mono ?_
    rintro e u' w'' ⟨rfl, rfl, hR, hF⟩
    exact ⟨_, results_tmp rfl _ _ _, rfl, ⟨p, hR⟩, ((Fr.of_below HB4.out).trans hf).trans hF⟩
  | inr x =>
    go_wp2_with ((go_at_call 135; refine (C.out).mono ?_; rintro e w1 ⟨v, rfl, hv, hr, hf⟩))
    refine leaves_cons (f := 185) (args := #[.pointer (some ⟨w.heap.size, 0, none⟩), .pointer (some ⟨w.heap.size + 1, 0, none⟩)]) (by simp) (by simp [go_sem]) ?_
    refine (idle_bool _ _ w1).mono ?_
    rintro e u' w'' ⟨rfl, rfl, rfl⟩
    exact ⟨_, results_tmp rfl _ _ _, v, rfl, hv, hr, (Fr.of_below HB4.out).trans hf⟩
theorem idle_pace (p q : Addr) (w : World) :
    CallsD Try.prog 183 #[.pointer (some p), .pointer (some q)] .returning w fun e u' w' => e = .returned (.tuple #[]) ∧ u' = .returning ∧ w' = w := by
  refine callsD_of_wpS Try.func183 rfl fun c₀ cs hu => ?_
  apply wpS_seq
  apply wpS_region
  simp [wpOpsS, go_sem, recoverD, hu, Try.ntmps183, Exit.thenS]
  refine wpS_of_wp ?_
  go_wp2
  cases c₀
  simp_all [bodyPostS, results, Try.results183]
set_option maxRecDepth 8000 in
set_option maxHeartbeats 1000000 in
theorem catch_pace (p q : Nat) (w : World) (R : Nat) (a : Option Addr) (c : Nat) (bs : List Int) (at' : Nat) (fe fa code fr : Int) (h : RSt w R a c bs at' fe fa)
    (hp0 : w.cell? ⟨p, 0, none⟩ = some (.pointer (some ⟨R, 0, none⟩))) (hq0 : w.cell? ⟨q, 0, none⟩ = some (.int .i64 fr)) :
    CallsD Try.prog 183 #[.pointer (some ⟨p, 0, none⟩), .pointer (some ⟨q, 0, none⟩)] (.panicking (hp code)) w fun e u' w' => e = .returned (.tuple #[]) ∧ u' = .panicking (hp2 code) ∧ RSt w' R a c bs at' code fr ∧ Fr (Xr R) w w' := by
  have H := hide (halted_any w R a c bs at' fe fa code fr h)
  clear h
  refine callsD_of_wpS Try.func183 rfl fun c₀ cs hu => ?_
  apply wpS_seq
  apply wpS_region
  simp [wpOpsS, go_sem, recoverD, hu, hp, Try.ntmps183, Exit.thenS]
  refine wpS_of_wp ?_
  go_wp2_with ((go_at_call 173; refine (H.out).mono ?_; rintro e w1 ⟨rfl, h2⟩; have HH := hide h2; clear h2))
  exact ⟨rfl, _, rfl, _, by simp [results, Try.results183], rfl, rfl, HH.out⟩
theorem read_none_pace (w : World) (p : Option Addr) (fv : Value) (h : NoR w p) (hp : ∀ S, p = some ⟨S, 0, none⟩ → S < w.heap.size) : Calls Try.prog 130 #[.pointer p, fv] w fun e w' => e = .returned (.float .f64 0) ∧ Below w.heap.size w w' := by
  have H := hide (fun W (hb : Below w.heap.size w W) => reads_none W p (by
    rcases h with rfl | ⟨S, rfl, hc⟩
    · exact .inl rfl
    · exact .inr ⟨S, rfl, (hb.cell (hp S rfl)).trans hc⟩))
  have hmf : ∀ (fn : Fn) (first cap : Array Value) (w : World), (Instr.makeFunc fn first cap).run Try.prog w = .ok (.func fn first cap) w := fun _ _ _ _ => rfl
  have hb := hide (show Below w.heap.size w (w.alloc (.cells #[.pointer p] 48)) from Below.alloc (Below.refl _ _) (Nat.le_refl _) _)
  clear h hp
  go_enter_defers Try.func130, Try.ntmps130
  go_wp2_with ((go_at_call 107; refine (H.out _ hb.out).mono ?_; rintro e w1 ⟨rfl, rfl⟩))
  exact ⟨_, results_tmp rfl _ _ _, rfl, hb.out⟩
theorem read_fault_pace (w : World) (R : Nat) (a : Option Addr) (c : Nat) (bs : List Int) (at' : Nat) (fe fa : Int) (fv : Value) (h : RSt w R a c bs at' fe fa) (he : fe ≠ 0) : Calls Try.prog 130 #[.pointer (some ⟨R, 0, none⟩), fv] w fun e w' => e = .returned (.float .f64 0) ∧ Below w.heap.size w w' := by
  have H := hide (fun W (hb : Below w.heap.size w W) => reads_any W R a c bs at' fe fa (h.below hb))
  have e0 : (fe == 0) = false := by simpa using he
  have hb := hide (show Below w.heap.size w (w.alloc (.cells #[.pointer (some ⟨R, 0, none⟩)] 48)) from Below.alloc (Below.refl _ _) (Nat.le_refl _) _)
  rw [e0] at H
  clear h he e0
  go_enter_defers Try.func130, Try.ntmps130
  go_wp2_with ((go_at_call 107; refine (H.out _ hb.out).mono ?_; rintro e w1 ⟨rfl, rfl⟩))
  exact ⟨_, results_tmp rfl _ _ _, rfl, hb.out⟩
set_option maxRecDepth 8000 in
set_option maxHeartbeats 1000000 in
theorem read_pace (w : World) (R : Nat) (a : Option Addr) (c : Nat) (bs : List Int) (at' : Nat) (X : Value) (out : Out) (h : RSt w R a c bs at' 0 0)
    (hG : ∀ W, Below w.heap.size w W → RSt W R a c bs at' 0 0 → Calls Try.prog 131 #[X] W (ElemPost W R a c bs out)) :
    Calls Try.prog 130 #[.pointer (some ⟨R, 0, none⟩), .func (.func 131) #[] #[X]] w (ReadPost w R a c bs at' (.float .f64 0) out) := by
  have hlt := h.lt
  have H := hide (fun W (hb : Below w.heap.size w W) => reads_any W R a c bs at' 0 0 (h.below hb))
  have hb := hide (show Below w.heap.size w (w.alloc (.cells #[.pointer (some ⟨R, 0, none⟩)] 48)) from Below.alloc (Below.refl _ _) (Nat.le_refl _) _)
  have c2 : w.cell? ⟨R, 2, none⟩ = some (.int .i64 (at' : Int)) := by rw [h.cell.cell]; rfl
  obtain ⟨W4, e4⟩ : ∃ X, X = (w.alloc (.cells #[.pointer (some ⟨R, 0, none⟩)] 48)).alloc (.cells #[.int .i64 (at' : Int)] 3) := ⟨_, rfl⟩
  have hb4 : Below w.heap.size w W4 := by rw [e4]; exact Below.alloc (Below.alloc (Below.refl _ _) (Nat.le_refl _) _) (by simp) _
  have hA1 : At W4 w.heap.size 48 [.pointer (some ⟨R, 0, none⟩)] := by rw [e4]; exact At.alloc (At.new w _ [_]) _
  have hA2 : At W4 (w.heap.size + 1) 3 [.int .i64 (at' : Int)] := by
    rw [e4]
    have := At.new (w.alloc (.cells #[.pointer (some ⟨R, 0, none⟩)] 48)) 3 [.int .i64 (at' : Int)]
    rw [World.size_alloc] at this
    exact this
  have hmf : ∀ (fn : Fn) (first cap : Array Value) (w : World), (Instr.makeFunc fn first cap).run Try.prog w = .ok (.func fn first cap) w := fun _ _ _ _ => rfl
  have C := hide (hG W4 hb4 (h.below hb4))
  have E4 := hide e4
  have HB4 := hide hb4
  have HA1 := hide hA1
  have HA2 := hide hA2
  clear hG h e4 hb4 hA1 hA2
  go_enter_defers Try.func130, Try.ntmps130
  go_upto_region 5 with ((go_at_call 107; refine (H.out _ hb.out).mono ?_; rintro e w1 ⟨rfl, rfl⟩))
  rw [← E4.out]
  cases out with
  | inl code =>
    go_wp2_with ((go_at_call 131; refine (C.out).mono ?_; rintro e w1 ⟨rfl, ⟨p, hr⟩, hf⟩))
    have k1 : w1.cell? ⟨w.heap.size, 0, none⟩ = some (.pointer (some ⟨R, 0, none⟩)) := (hf.cell (p := ⟨w.heap.size, 0, none⟩) HA1.out.lt (fun h => by have : w.heap.size = R := h; omega)).trans (HA1.out.cell 0)
    have k2 : w1.cell? ⟨w.heap.size + 1, 0, none⟩ = some (.int .i64 (at' : Int)) := (hf.cell (p := ⟨w.heap.size + 1, 0, none⟩) HA2.out.lt (fun h => by have : w.heap.size + 1 = R := h; omega)).trans (HA2.out.cell 0)
    refine leaves_cons (f := 183) (args := #[.pointer (some ⟨w.heap.size, 0, none⟩), .pointer (some ⟨w.heap.size + 1, 0, none⟩)]) (by simp) (by simp [go_sem]) ?_
    refine (catch_pace w.heap.size (w.heap.size + 1) w1 R a c bs p 0 0 code at' hr k1 k2).mono ?_
    rintro e u' w'' ⟨rfl, rfl, hR, hF⟩
    exact ⟨_, results_tmp rfl _ _ _, rfl, ⟨p, hR⟩, ((Fr.of_below HB4.out).trans hf).trans hF⟩
  | inr x =>
    go_wp2_with ((go_at_call 131; refine (C.out).mono ?_; rintro e w1 ⟨v, rfl, hv, hr, hf⟩))
    refine leaves_cons (f := 183) (args := #[.pointer (some ⟨w.heap.size, 0, none⟩), .pointer (some ⟨w.heap.size + 1, 0, none⟩)]) (by simp) (by simp [go_sem]) ?_
    refine (idle_pace _ _ w1).mono ?_
    rintro e u' w'' ⟨rfl, rfl, rfl⟩
    exact ⟨_, results_tmp rfl _ _ _, v, rfl, hv, hr, (Fr.of_below HB4.out).trans hf⟩
theorem idle_text (p q : Addr) (w : World) :
    CallsD Try.prog 176 #[.pointer (some p), .pointer (some q)] .returning w fun e u' w' => e = .returned (.tuple #[]) ∧ u' = .returning ∧ w' = w := by
  refine callsD_of_wpS Try.func176 rfl fun c₀ cs hu => ?_
  apply wpS_seq
  apply wpS_region
  simp [wpOpsS, go_sem, recoverD, hu, Try.ntmps176, Exit.thenS]
  refine wpS_of_wp ?_
  go_wp2
  cases c₀
  simp_all [bodyPostS, results, Try.results176]
set_option maxRecDepth 8000 in
set_option maxHeartbeats 1000000 in
theorem catch_text (p q : Nat) (w : World) (R : Nat) (a : Option Addr) (c : Nat) (bs : List Int) (at' : Nat) (fe fa code fr : Int) (h : RSt w R a c bs at' fe fa)
    (hp0 : w.cell? ⟨p, 0, none⟩ = some (.pointer (some ⟨R, 0, none⟩))) (hq0 : w.cell? ⟨q, 0, none⟩ = some (.int .i64 fr)) :
    CallsD Try.prog 176 #[.pointer (some ⟨p, 0, none⟩), .pointer (some ⟨q, 0, none⟩)] (.panicking (hp code)) w fun e u' w' => e = .returned (.tuple #[]) ∧ u' = .panicking (hp2 code) ∧ RSt w' R a c bs at' code fr ∧ Fr (Xr R) w w' := by
  have H := hide (halted_any w R a c bs at' fe fa code fr h)
  clear h
  refine callsD_of_wpS Try.func176 rfl fun c₀ cs hu => ?_
  apply wpS_seq
  apply wpS_region
  simp [wpOpsS, go_sem, recoverD, hu, hp, Try.ntmps176, Exit.thenS]
  refine wpS_of_wp ?_
  go_wp2_with ((go_at_call 173; refine (H.out).mono ?_; rintro e w1 ⟨rfl, h2⟩; have HH := hide h2; clear h2))
  exact ⟨rfl, _, rfl, _, by simp [results, Try.results176], rfl, rfl, HH.out⟩
theorem read_none_text (w : World) (p : Option Addr) (fv : Value) (h : NoR w p) (hp : ∀ S, p = some ⟨S, 0, none⟩ → S < w.heap.size) : Calls Try.prog 111 #[.pointer p, fv] w fun e w' => e = .returned (.string ⟨#[]⟩) ∧ Below w.heap.size w w' := by
  have H := hide (fun W (hb : Below w.heap.size w W) => reads_none W p (by
    rcases h with rfl | ⟨S, rfl, hc⟩
    · exact .inl rfl
    · exact .inr ⟨S, rfl, (hb.cell (hp S rfl)).trans hc⟩))
  have hmf : ∀ (fn : Fn) (first cap : Array Value) (w : World), (Instr.makeFunc fn first cap).run Try.prog w = .ok (.func fn first cap) w := fun _ _ _ _ => rfl
  have hb := hide (show Below w.heap.size w (w.alloc (.cells #[.pointer p] 48)) from Below.alloc (Below.refl _ _) (Nat.le_refl _) _)
  clear h hp
  go_enter_defers Try.func111, Try.ntmps111
  go_wp2_with ((go_at_call 107; refine (H.out _ hb.out).mono ?_; rintro e w1 ⟨rfl, rfl⟩))
  exact ⟨_, results_tmp rfl _ _ _, rfl, hb.out⟩
theorem read_fault_text (w : World) (R : Nat) (a : Option Addr) (c : Nat) (bs : List Int) (at' : Nat) (fe fa : Int) (fv : Value) (h : RSt w R a c bs at' fe fa) (he : fe ≠ 0) : Calls Try.prog 111 #[.pointer (some ⟨R, 0, none⟩), fv] w fun e w' => e = .returned (.string ⟨#[]⟩) ∧ Below w.heap.size w w' := by
  have H := hide (fun W (hb : Below w.heap.size w W) => reads_any W R a c bs at' fe fa (h.below hb))
  have e0 : (fe == 0) = false := by simpa using he
  have hb := hide (show Below w.heap.size w (w.alloc (.cells #[.pointer (some ⟨R, 0, none⟩)] 48)) from Below.alloc (Below.refl _ _) (Nat.le_refl _) _)
  rw [e0] at H
  clear h he e0
  go_enter_defers Try.func111, Try.ntmps111
  go_wp2_with ((go_at_call 107; refine (H.out _ hb.out).mono ?_; rintro e w1 ⟨rfl, rfl⟩))
  exact ⟨_, results_tmp rfl _ _ _, rfl, hb.out⟩
set_option maxRecDepth 8000 in
set_option maxHeartbeats 1000000 in
theorem read_text (w : World) (R : Nat) (a : Option Addr) (c : Nat) (bs : List Int) (at' : Nat) (X Y : Value) (out : Out) (h : RSt w R a c bs at' 0 0)
    (hG : ∀ W, Below w.heap.size w W → RSt W R a c bs at' 0 0 → Calls Try.prog 112 #[X, Y] W (ElemPost W R a c bs out)) :
    Calls Try.prog 111 #[.pointer (some ⟨R, 0, none⟩), .func (.func 112) #[] #[X, Y]] w (ReadPost w R a c bs at' (.string ⟨#[]⟩) out) := by
  have hlt := h.lt
  have H := hide (fun W (hb : Below w.heap.size w W) => reads_any W R a c bs at' 0 0 (h.below hb))
  have hb := hide (show Below w.heap.size w (w.alloc (.cells #[.pointer (some ⟨R, 0, none⟩)] 48)) from Below.alloc (Below.refl _ _) (Nat.le_refl _) _)
  have c2 : w.cell? ⟨R, 2, none⟩ = some (.int .i64 (at' : Int)) := by rw [h.cell.cell]; rfl
  obtain ⟨W4, e4⟩ : ∃ X, X = (w.alloc (.cells #[.pointer (some ⟨R, 0, none⟩)] 48)).alloc (.cells #[.int .i64 (at' : Int)] 3) := ⟨_, rfl⟩
  have hb4 : Below w.heap.size w W4 := by rw [e4]; exact Below.alloc (Below.alloc (Below.refl _ _) (Nat.le_refl _) _) (by simp) _
  have hA1 : At W4 w.heap.size 48 [.pointer (some ⟨R, 0, none⟩)] := by rw [e4]; exact At.alloc (At.new w _ [_]) _
  have hA2 : At W4 (w.heap.size + 1) 3 [.int .i64 (at' : Int)] := by
    rw [e4]
    have := At.new (w.alloc (.cells #[.pointer (some ⟨R, 0, none⟩)] 48)) 3 [.int .i64 (at' : Int)]
    rw [World.size_alloc] at this
    exact this
  have hmf : ∀ (fn : Fn) (first cap : Array Value) (w : World), (Instr.makeFunc fn first cap).run Try.prog w = .ok (.func fn first cap) w := fun _ _ _ _ => rfl
  have C := hide (hG W4 hb4 (h.below hb4))
  have E4 := hide e4
  have HB4 := hide hb4
  have HA1 := hide hA1
  have HA2 := hide hA2
  clear hG h e4 hb4 hA1 hA2
  go_enter_defers Try.func111, Try.ntmps111
  go_upto_region 5 with ((go_at_call 107; refine (H.out _ hb.out).mono ?_; rintro e w1 ⟨rfl, rfl⟩))
  rw [← E4.out]
  cases out with
  | inl code =>
    go_wp2_with ((go_at_call 112; refine (C.out).mono ?_; rintro e w1 ⟨rfl, ⟨p, hr⟩, hf⟩))
    have k1 : w1.cell? ⟨w.heap.size, 0, none⟩ = some (.pointer (some ⟨R, 0, none⟩)) := (hf.cell (p := ⟨w.heap.size, 0, none⟩) HA1.out.lt (fun h => by have : w.heap.size = R := h; omega)).trans (HA1.out.cell 0)
    have k2 : w1.cell? ⟨w.heap.size + 1, 0, none⟩ = some (.int .i64 (at' : Int)) := (hf.cell (p := ⟨w.heap.size + 1, 0, none⟩) HA2.out.lt (fun h => by have : w.heap.size + 1 = R := h; omega)).trans (HA2.out.cell 0)
    refine leaves_cons (f := 176) (args := #[.pointer (some ⟨w.heap.size, 0, none⟩), .pointer (some ⟨w.heap.size + 1, 0, none⟩)]) (by simp) (by simp [go_sem]) ?_
    refine (catch_text w.heap.size (w.heap.size + 1) w1 R a c bs p 0 0 code at' hr k1 k2).mono ?_
    rintro e u' w'' ⟨rfl, rfl, hR, hF⟩
    exact ⟨_, results_tmp rfl _ _ _, rfl, ⟨p, hR⟩, ((Fr.of_below HB4.out).trans hf).trans hF⟩
  | inr x =>
    go_wp2_with ((go_at_call 112; refine (C.out).mono ?_; rintro e w1 ⟨v, rfl, hv, hr, hf⟩))
    refine leaves_cons (f := 176) (args := #[.pointer (some ⟨w.heap.size, 0, none⟩), .pointer (some ⟨w.heap.size + 1, 0, none⟩)]) (by simp) (by simp [go_sem]) ?_
    refine (idle_text _ _ w1).mono ?_
    rintro e u' w'' ⟨rfl, rfl, rfl⟩
    exact ⟨_, results_tmp rfl _ _ _, v, rfl, hv, hr, (Fr.of_below HB4.out).trans hf⟩
theorem idle_bytes (p q : Addr) (w : World) :
    CallsD Try.prog 178 #[.pointer (some p), .pointer (some q)] .returning w fun e u' w' => e = .returned (.tuple #[]) ∧ u' = .returning ∧ w' = w := by
  refine callsD_of_wpS Try.func178 rfl fun c₀ cs hu => ?_
  apply wpS_seq
  apply wpS_region
  simp [wpOpsS, go_sem, recoverD, hu, Try.ntmps178, Exit.thenS]
  refine wpS_of_wp ?_
  go_wp2
  cases c₀
  simp_all [bodyPostS, results, Try.results178]
set_option maxRecDepth 8000 in
set_option maxHeartbeats 1000000 in
theorem catch_bytes (p q : Nat) (w : World) (R : Nat) (a : Option Addr) (c : Nat) (bs : List Int) (at' : Nat) (fe fa code fr : Int) (h : RSt w R a c bs at' fe fa)
    (hp0 : w.cell? ⟨p, 0, none⟩ = some (.pointer (some ⟨R, 0, none⟩))) (hq0 : w.cell? ⟨q, 0, none⟩ = some (.int .i64 fr)) :
    CallsD Try.prog 178 #[.pointer (some ⟨p, 0, none⟩), .pointer (some ⟨q, 0, none⟩)] (.panicking (hp code)) w fun e u' w' => e = .returned (.tuple #[]) ∧ u' = .panicking (hp2 code) ∧ RSt w' R a c bs at' code fr ∧ Fr (Xr R) w w' := by
  have H := hide (halted_any w R a c bs at' fe fa code fr h)
  clear h
  refine callsD_of_wpS Try.func178 rfl fun c₀ cs hu => ?_
  apply wpS_seq
  apply wpS_region
  simp [wpOpsS, go_sem, recoverD, hu, hp, Try.ntmps178, Exit.thenS]
  refine wpS_of_wp ?_
  go_wp2_with ((go_at_call 173; refine (H.out).mono ?_; rintro e w1 ⟨rfl, h2⟩; have HH := hide h2; clear h2))
  exact ⟨rfl, _, rfl, _, by simp [results, Try.results178], rfl, rfl, HH.out⟩
theorem read_none_bytes (w : World) (p : Option Addr) (fv : Value) (h : NoR w p) (hp : ∀ S, p = some ⟨S, 0, none⟩ → S < w.heap.size) : Calls Try.prog 115 #[.pointer p, fv] w fun e w' => e = .returned (.slice none 0 0) ∧ Below w.heap.size w w' := by
  have H := hide (fun W (hb : Below w.heap.size w W) => reads_none W p (by
    rcases h with rfl | ⟨S, rfl, hc⟩
    · exact .inl rfl
    · exact .inr ⟨S, rfl, (hb.cell (hp S rfl)).trans hc⟩))
  have hmf : ∀ (fn : Fn) (first cap : Array Value) (w : World), (Instr.makeFunc fn first cap).run Try.prog w = .ok (.func fn first cap) w := fun _ _ _ _ => rfl
  have hb := hide (show Below w.heap.size w (w.alloc (.cells #[.pointer p] 48)) from Below.alloc (Below.refl _ _) (Nat.le_refl _) _)
  clear h hp
  go_enter_defers Try.func115, Try.ntmps115
  go_wp2_with ((go_at_call 107; refine (H.out _ hb.out).mono ?_; rintro e w1 ⟨rfl, rfl⟩))
  exact ⟨_, results_tmp rfl _ _ _, rfl, hb.out⟩
theorem read_fault_bytes (w : World) (R : Nat) (a : Option Addr) (c : Nat) (bs : List Int) (at' : Nat) (fe fa : Int) (fv : Value) (h : RSt w R a c bs at' fe fa) (he : fe ≠ 0) : Calls Try.prog 115 #[.pointer (some ⟨R, 0, none⟩), fv] w fun e w' => e = .returned (.slice none 0 0) ∧ Below w.heap.size w w' := by
  have H := hide (fun W (hb : Below w.heap.size w W) => reads_any W R a c bs at' fe fa (h.below hb))
  have e0 : (fe == 0) = false := by simpa using he
  have hb := hide (show Below w.heap.size w (w.alloc (.cells #[.pointer (some ⟨R, 0, none⟩)] 48)) from Below.alloc (Below.refl _ _) (Nat.le_refl _) _)
  rw [e0] at H
  clear h he e0
  go_enter_defers Try.func115, Try.ntmps115
  go_wp2_with ((go_at_call 107; refine (H.out _ hb.out).mono ?_; rintro e w1 ⟨rfl, rfl⟩))
  exact ⟨_, results_tmp rfl _ _ _, rfl, hb.out⟩
set_option maxRecDepth 8000 in
set_option maxHeartbeats 1000000 in
theorem read_bytes (w : World) (R : Nat) (a : Option Addr) (c : Nat) (bs : List Int) (at' : Nat) (X Y : Value) (out : Out) (h : RSt w R a c bs at' 0 0)
    (hG : ∀ W, Below w.heap.size w W → RSt W R a c bs at' 0 0 → Calls Try.prog 116 #[X, Y] W (ElemPost W R a c bs out)) :
    Calls Try.prog 115 #[.pointer (some ⟨R, 0, none⟩), .func (.func 116) #[] #[X, Y]] w (ReadPost w R a c bs at' (.slice none 0 0) out) := by
  have hlt := h.lt
  have H := hide (fun W (hb : Below w.heap.size w W) => reads_any W R a c bs at' 0 0 (h.below hb))
  have hb := hide (show Below w.heap.size w (w.alloc (.cells #[.pointer (some ⟨R, 0, none⟩)] 48)) from Below.alloc (Below.refl _ _) (Nat.le_refl _) _)
  have c2 : w.cell? ⟨R, 2, none⟩ = some (.int .i64 (at' : Int)) := by rw [h.cell.cell]; rfl
  obtain ⟨W4, e4⟩ : ∃ X, X = (w.alloc (.cells #[.pointer (some ⟨R, 0, none⟩)] 48)).alloc (.cells #[.int .i64 (at' : Int)] 3) := ⟨_, rfl⟩
  have hb4 : Below w.heap.size w W4 := by rw [e4]; exact Below.alloc (Below.alloc (Below.refl _ _) (Nat.le_refl _) _) (by simp) _
  have hA1 : At W4 w.heap.size 48 [.pointer (some ⟨R, 0, none⟩)] := by rw [e4]; exact At.alloc (At.new w _ [_]) _
  have hA2 : At W4 (w.heap.size + 1) 3 [.int .i64 (at' : Int)] := by
    rw [e4]
    have := At.new (w.alloc (.cells #[.pointer (some ⟨R, 0, none⟩)] 48)) 3 [.int .i64 (at' : Int)]
    rw [World.size_alloc] at this
    exact this
  have hmf : ∀ (fn : Fn) (first cap : Array Value) (w : World), (Instr.makeFunc fn first cap).run Try.prog w = .ok (.func fn first cap) w := fun _ _ _ _ => rfl
  have C := hide (hG W4 hb4 (h.below hb4))
  have E4 := hide e4
  have HB4 := hide hb4
  have HA1 := hide hA1
  have HA2 := hide hA2
  clear hG h e4 hb4 hA1 hA2
  go_enter_defers Try.func115, Try.ntmps115
  go_upto_region 5 with ((go_at_call 107; refine (H.out _ hb.out).mono ?_; rintro e w1 ⟨rfl, rfl⟩))
  rw [← E4.out]
  cases out with
  | inl code =>
    go_wp2_with ((go_at_call 116; refine (C.out).mono ?_; rintro e w1 ⟨rfl, ⟨p, hr⟩, hf⟩))
    have k1 : w1.cell? ⟨w.heap.size, 0, none⟩ = some (.pointer (some ⟨R, 0, none⟩)) := (hf.cell (p := ⟨w.heap.size, 0, none⟩) HA1.out.lt (fun h => by have : w.heap.size = R := h; omega)).trans (HA1.out.cell 0)
    have k2 : w1.cell? ⟨w.heap.size + 1, 0, none⟩ = some (.int .i64 (at' : Int)) := (hf.cell (p := ⟨w.heap.size + 1, 0, none⟩) HA2.out.lt (fun h => by have : w.heap.size + 1 = R := h; omega)).trans (HA2.out.cell 0)
    refine leaves_cons (f := 178) (args := #[.pointer (some ⟨w.heap.size, 0, none⟩), .pointer (some ⟨w.heap.size + 1, 0, none⟩)]) (by simp) (by simp [go_sem]) ?_
    refine (catch_bytes w.heap.size (w.heap.size + 1) w1 R a c bs p 0 0 code at' hr k1 k2).mono ?_
    rintro e u' w'' ⟨rfl, rfl, hR, hF⟩
    exact ⟨_, results_tmp rfl _ _ _, rfl, ⟨p, hR⟩, ((Fr.of_below HB4.out).trans hf).trans hF⟩
  | inr x =>
    go_wp2_with ((go_at_call 116; refine (C.out).mono ?_; rintro e w1 ⟨v, rfl, hv, hr, hf⟩))
    refine leaves_cons (f := 178) (args := #[.pointer (some ⟨w.heap.size, 0, none⟩), .pointer (some ⟨w.heap.size + 1, 0, none⟩)]) (by simp) (by simp [go_sem]) ?_
    refine (idle_bytes _ _ w1).mono ?_
    rintro e u' w'' ⟨rfl, rfl, rfl⟩
    exact ⟨_, results_tmp rfl _ _ _, v, rfl, hv, hr, (Fr.of_below HB4.out).trans hf⟩
end WirI
end Go.Proofs.Ytackcnncjeajpaa
