/-
  Collect, SortFunc, SortedFunc of nothing; List and Who of a table that is nil, or that nobody made.
-/
import Derived.Test.YthcemghamdmjmaaSgH
import Derived.Test.YthcemghamdmjmaaPkL
namespace Go.Proofs.Ythcemghamdmjmaa
namespace SgI
open Go.RowKit
open BlkM WirM WirS SgA SgB SgC SgD SgH
open Go.Proofs.Ythcemghamdmjmaa.Seq2
attribute [local go_sem] Oper.semAt_some

local notation "TM" => 135
theorem at_put {U : World} {k : Nat} {T : TypeId} {cs : List Value} (h : At U k T cs) (l : Nat) (o o' : Obj) (hl : U.heap[l]? = some o) (ho : o.isCells = false) : At (U.putObj l o') k T cs := by
  have hne : k ≠ l := by
    rintro rfl
    unfold At at h
    rw [h] at hl
    cases hl
    simp [Obj.isCells] at ho
  exact (World.putObj_heap_other hne).trans h
def Nothing (w : World) (g : Nat) (lb : Array Value) : Prop := ∀ W l, Below w.heap.size w W → Calls Try.prog g (#[.func (.yield l) #[] #[]] ++ lb) W fun e U => (∃ v, e = .returned v) ∧ Below W.heap.size W U
theorem Nothing.below {w w' : World} {g : Nat} {lb : Array Value} (h : Nothing w g lb) (hb : Below w.heap.size w w') : Nothing w' g lb := fun W l hW => h W l (hb.trans (hW.mono hb.size))
def Enters (g : Nat) : Prop := ∀ args w, (callFunc g args).run Try.prog w = .ok (.enter g args) w
set_option maxRecDepth 20000 in
set_option maxHeartbeats 4000000 in
theorem sig1_none (W : World) (l T1 H1 : Nat) (p : Option Addr) (hT : At W T1 124 [.pointer p]) (hb : Bad W p) :
    Calls Try.prog 234 #[.func (.yield l) #[] #[], .pointer (some ⟨T1, 0, none⟩), .pointer (some ⟨H1, 0, none⟩)] W fun e U => (∃ v, e = .returned v) ∧ Below W.heap.size W U := by
  have c0 : W.cell? ⟨T1, 0, none⟩ = some (.pointer p) := hT.cell 0
  have hrn := range_nil W
  have HS := WirS.hide (sigs_bad W p hb)
  have HN := WirS.hide (fun ty => next_nil (W := W.alloc (.mapIter none 0 #[] 0)) (r := W.heap.size) (World.alloc_heap_new W _) ty)
  have HB := WirS.hide (show Below W.heap.size W (W.alloc (.mapIter none 0 #[] 0)) from Below.alloc (Below.refl _ _) (Nat.le_refl _) _)
  clear hT hb
  go_enter Try.func234, Try.ntmps234
  go_upto_region 1 with (go_at_call 185; refine (HS.out).mono ?_; rintro e _ ⟨rfl, rfl⟩)
  generalize W.alloc _ = W1 at *
  clear hrn c0
  go_loopw [8] (fun _ wr => wr = W1) (fun _ _ => 0)
  case atStart => rfl
  case round =>
    subst hrel
    have hn := HN.out
    go_wp2_with fail
    go_end0
    exact ⟨⟨_, rfl⟩, HB.out⟩
set_option maxRecDepth 20000 in
set_option maxHeartbeats 4000000 in
theorem ap_k (w : World) (g : Nat) (lb : Array Value) (eg : Enters g) (hit : Nothing w g lb) :
    Calls Try.prog 248 #[.slice none 0 0, .func (.func g) #[] lb] w fun e w' => e = .returned (.slice none 0 0) ∧ Below w.heap.size w w' := by
  obtain ⟨W0, e0⟩ : ∃ X, X = w.alloc (.cells #[.slice none 0 0] 101) := ⟨_, rfl⟩
  have hb0 : Below w.heap.size w W0 := by rw [e0]; exact Below.alloc (Below.refl _ _) (Nat.le_refl _) _
  have hS0 : At W0 w.heap.size 101 [.slice none 0 0] := by rw [e0]; exact At.new w _ _
  have hl0 := hb0.size
  have hlt0 := hS0.lt
  refine (callsIn_wide (n := 5)).1 ?_
  refine callsIn_of_wp_marks Try.func248 rfl trivial ?_
  simp only [Try.ntmps248, List.size_toArray, List.length_cons, List.length_nil, Nat.reduceAdd, Nat.reduceSub, Array.replicate_succ, Array.replicate_zero, List.push_toArray, List.append_toArray, List.nil_append, List.cons_append]
  gi_wp2_with fail
  rw [← e0]
  refine Seq2.range (α := Unit) (gf := g) (lb := lb) (encs := fun _ => #[undef]) (Kp := fun _ _ => True) (S := fun xs => xs = []) (Sp := fun _ => False) (w0 := w) rfl eg ?gives (by decide) (fun _ _ => trivial) (fun _ _ _ _ _ _ => trivial) hb0 (fun _ => rfl)
    (fun _ U => At U w.heap.size 101 [.slice none 0 0] ∧ Below w.heap.size w U) (fun _ _ _ => False) ⟨fun _ A C h hB => ⟨h.1.below hB h.1.lt, h.2.trans (hB.mono h.2.size)⟩, fun _ U l o o' hl ho hc h => ⟨at_put h.1 l o o' ho hc, h.2.trans (below_put o' ho (by omega))⟩⟩ (fun _ => ⟨fun _ _ _ h _ => h, fun _ _ _ _ _ _ _ _ h => h⟩) ⟨hS0, hb0⟩
    (fun _ _ _ => False) (fun _ _ _ _ _ _ _ _ _ h => h) ?assign ?body ?done ?stop
  case gives =>
    intro l J Jx W hBW hJ _ h0
    exact callsIn_wide.2 ((hit W l hBW).mono fun e U ⟨he, hb⟩ => ⟨he, .inl ⟨[], rfl, hJ _ _ _ h0 hb⟩⟩)
  case assign => exact fun _ _ _ _ _ _ hsp => hsp.elim
  case body => exact fun _ _ _ _ _ _ _ hsp => hsp.elim
  case done =>
    rintro D ys W hD rfl ⟨hS, hB⟩ hK
    have c0 : W.cell? ⟨w.heap.size, 0, none⟩ = some (.slice none 0 0) := hS.cell 0
    have HB := WirS.hide hB
    have HK := WirS.hide hK
    clear hS hB hK hS0 e0
    gi_wp2
    refine ⟨by simp, .inl ⟨_, _, rfl, run_takeDeferred HK.out, ?_⟩⟩
    exact ⟨_, results_tmp rfl _ _ _, rfl, HB.out.trans (below_put _ HK.out (by omega))⟩
  case stop =>
    rintro D c pre W _ h
    exact h.elim
theorem co_k (w : World) (g : Nat) (lb : Array Value) (eg : Enters g) (hit : Nothing w g lb) :
    Calls Try.prog 232 #[.func (.func g) #[] lb] w fun e w' => e = .returned (.slice none 0 0) ∧ Below w.heap.size w w' := by
  have HA := WirS.hide (ap_k w g lb eg hit)
  clear hit eg
  go_enter Try.func232, Try.ntmps232
  go_wp2_with (go_at_call 248; refine (HA.out).mono ?_; rintro e u ⟨rfl, hb⟩; have HB := WirS.hide hb; clear hb)
  go_ret
  exact ⟨rfl, HB.out⟩
set_option maxRecDepth 20000 in
set_option maxHeartbeats 4000000 in
theorem is_k (w : World) (f : Value) :
    Calls Try.prog 258 #[.slice none 0 0, .int .i64 0, .int .i64 0, f] w fun e w' => e = .returned (.tuple #[]) ∧ w = w' := by
  go_enter Try.func258, Try.ntmps258
  go_wp2_with fail
  go_loopw [8] (fun i wr => i = .int .i64 1 ∧ wr = w) (fun _ _ => 0)
  case atStart => exact ⟨rfl, rfl⟩
  case round =>
    obtain ⟨rfl, rfl⟩ := hrel
    go_wp2_with fail
    go_end0
    exact ⟨rfl, rfl⟩
set_option maxRecDepth 20000 in
set_option maxHeartbeats 4000000 in
theorem pd_k (w : World) (f lim : Value) :
    Calls Try.prog 249 #[.slice none 0 0, .int .i64 0, .int .i64 0, lim, f] w fun e w' => e = .returned (.tuple #[]) ∧ w = w' := by
  have HI := WirS.hide (is_k w f)
  go_enter Try.func249, Try.ntmps249
  go_wp2_with fail
  go_loopw [1, 2] (fun x y wr => x = .int .i64 0 ∧ y = .int .i64 0 ∧ wr = w) (fun _ _ _ => 0)
  case atStart => exact ⟨rfl, rfl, rfl⟩
  case round =>
    obtain ⟨rfl, rfl, rfl⟩ := hrel
    go_wp2_with (go_at_call 258; refine (HI.out).mono ?_; rintro e _ ⟨rfl, rfl⟩)
    exact bodyPost_ret (results_none rfl _ _ _) rfl ⟨rfl, rfl⟩
set_option maxRecDepth 20000 in
set_option maxHeartbeats 4000000 in
theorem ap_g (w : World) (g : Nat) (lb : Array Value) (eg : Enters g) (hit : Nothing w g lb) :
    Calls Try.prog 255 #[.slice none 0 0, .func (.func g) #[] lb] w fun e w' => e = .returned (.slice none 0 0) ∧ Below w.heap.size w w' := by
  obtain ⟨W0, e0⟩ : ∃ X, X = w.alloc (.cells #[.slice none 0 0] 216) := ⟨_, rfl⟩
  have hb0 : Below w.heap.size w W0 := by rw [e0]; exact Below.alloc (Below.refl _ _) (Nat.le_refl _) _
  have hS0 : At W0 w.heap.size 216 [.slice none 0 0] := by rw [e0]; exact At.new w _ _
  have hl0 := hb0.size
  have hlt0 := hS0.lt
  refine (callsIn_wide (n := 5)).1 ?_
  refine callsIn_of_wp_marks Try.func255 rfl trivial ?_
  simp only [Try.ntmps255, List.size_toArray, List.length_cons, List.length_nil, Nat.reduceAdd, Nat.reduceSub, Array.replicate_succ, Array.replicate_zero, List.push_toArray, List.append_toArray, List.nil_append, List.cons_append]
  gi_wp2_with fail
  rw [← e0]
  refine Seq2.range (α := Unit) (gf := g) (lb := lb) (encs := fun _ => #[undef]) (Kp := fun _ _ => True) (S := fun xs => xs = []) (Sp := fun _ => False) (w0 := w) rfl eg ?gives (by decide) (fun _ _ => trivial) (fun _ _ _ _ _ _ => trivial) hb0 (fun _ => rfl)
    (fun _ U => At U w.heap.size 216 [.slice none 0 0] ∧ Below w.heap.size w U) (fun _ _ _ => False) ⟨fun _ A C h hB => ⟨h.1.below hB h.1.lt, h.2.trans (hB.mono h.2.size)⟩, fun _ U l o o' hl ho hc h => ⟨at_put h.1 l o o' ho hc, h.2.trans (below_put o' ho (by omega))⟩⟩ (fun _ => ⟨fun _ _ _ h _ => h, fun _ _ _ _ _ _ _ _ h => h⟩) ⟨hS0, hb0⟩
    (fun _ _ _ => False) (fun _ _ _ _ _ _ _ _ _ h => h) ?assign ?body ?done ?stop
  case gives =>
    intro l J Jx W hBW hJ _ h0
    exact callsIn_wide.2 ((hit W l hBW).mono fun e U ⟨he, hb⟩ => ⟨he, .inl ⟨[], rfl, hJ _ _ _ h0 hb⟩⟩)
  case assign => exact fun _ _ _ _ _ _ hsp => hsp.elim
  case body => exact fun _ _ _ _ _ _ _ hsp => hsp.elim
  case done =>
    rintro D ys W hD rfl ⟨hS, hB⟩ hK
    have c0 : W.cell? ⟨w.heap.size, 0, none⟩ = some (.slice none 0 0) := hS.cell 0
    have HB := WirS.hide hB
    have HK := WirS.hide hK
    clear hS hB hK hS0 e0
    gi_wp2
    refine ⟨by simp, .inl ⟨_, _, rfl, run_takeDeferred HK.out, ?_⟩⟩
    exact ⟨_, results_tmp rfl _ _ _, rfl, HB.out.trans (below_put _ HK.out (by omega))⟩
  case stop =>
    rintro D c pre W _ h
    exact h.elim
theorem co_g (w : World) (g : Nat) (lb : Array Value) (eg : Enters g) (hit : Nothing w g lb) :
    Calls Try.prog 243 #[.func (.func g) #[] lb] w fun e w' => e = .returned (.slice none 0 0) ∧ Below w.heap.size w w' := by
  have HA := WirS.hide (ap_g w g lb eg hit)
  clear hit eg
  go_enter Try.func243, Try.ntmps243
  go_wp2_with (go_at_call 255; refine (HA.out).mono ?_; rintro e u ⟨rfl, hb⟩; have HB := WirS.hide hb; clear hb)
  go_ret
  exact ⟨rfl, HB.out⟩
set_option maxRecDepth 20000 in
set_option maxHeartbeats 4000000 in
theorem is_g (w : World) (f : Value) :
    Calls Try.prog 268 #[.slice none 0 0, .int .i64 0, .int .i64 0, f] w fun e w' => e = .returned (.tuple #[]) ∧ w = w' := by
  go_enter Try.func268, Try.ntmps268
  go_wp2_with fail
  go_loopw [8] (fun i wr => i = .int .i64 1 ∧ wr = w) (fun _ _ => 0)
  case atStart => exact ⟨rfl, rfl⟩
  case round =>
    obtain ⟨rfl, rfl⟩ := hrel
    go_wp2_with fail
    go_end0
    exact ⟨rfl, rfl⟩
set_option maxRecDepth 20000 in
set_option maxHeartbeats 4000000 in
theorem pd_g (w : World) (f lim : Value) :
    Calls Try.prog 256 #[.slice none 0 0, .int .i64 0, .int .i64 0, lim, f] w fun e w' => e = .returned (.tuple #[]) ∧ w = w' := by
  have HI := WirS.hide (is_g w f)
  go_enter Try.func256, Try.ntmps256
  go_wp2_with fail
  go_loopw [1, 2] (fun x y wr => x = .int .i64 0 ∧ y = .int .i64 0 ∧ wr = w) (fun _ _ _ => 0)
  case atStart => exact ⟨rfl, rfl, rfl⟩
  case round =>
    obtain ⟨rfl, rfl, rfl⟩ := hrel
    go_wp2_with (go_at_call 268; refine (HI.out).mono ?_; rintro e _ ⟨rfl, rfl⟩)
    exact bodyPost_ret (results_none rfl _ _ _) rfl ⟨rfl, rfl⟩
set_option maxRecDepth 20000 in
theorem len0 (w : World) : Calls Try.prog 250 #[.int .u64 0] w fun e w' => e = .returned (.int .i64 0) ∧ w = w' := by
  have HL : Hid (∀ U, Calls Try.prog 214 #[.int .u64 0] U fun e w' => e = .returned (.int .i64 0) ∧ U = w') := WirS.hide (fun U => by
    go_enter Try.func214, Try.ntmps214
    go_wp2_with fail
    go_ret
    exact ⟨by kernel_rfl, rfl⟩)
  go_enter Try.func250, Try.ntmps250
  go_wp2_with (go_at_call 214; refine (HL.out _).mono ?_; rintro e _ ⟨rfl, rfl⟩)
  go_ret
  exact ⟨rfl, rfl⟩
set_option maxRecDepth 20000 in
set_option maxHeartbeats 4000000 in
theorem sf_k (w : World) (f : Value) :
    Calls Try.prog 233 #[.slice none 0 0, f] w fun e w' => e = .returned (.tuple #[]) ∧ w = w' := by
  have HL := WirS.hide (len0 w)
  have HP := WirS.hide (fun lim => pd_k w f lim)
  go_enter Try.func233, Try.ntmps233
  go_wp2_with (first | (go_at_call 250; refine (HL.out).mono ?_; rintro e _ ⟨rfl, rfl⟩) | (go_at_call 249; refine (HP.out _).mono ?_; rintro e _ ⟨rfl, rfl⟩))
  go_end0
  exact ⟨rfl, rfl⟩
theorem so_k (w : World) (g : Nat) (lb : Array Value) (f : Value) (eg : Enters g) (hit : Nothing w g lb) :
    Calls Try.prog 187 #[.func (.func g) #[] lb, f] w fun e w' => e = .returned (.slice none 0 0) ∧ Below w.heap.size w w' := by
  have HA := WirS.hide (co_k w g lb eg hit)
  have HS := WirS.hide (fun U => sf_k U f)
  clear hit eg
  go_enter Try.func187, Try.ntmps187
  go_wp2_with (first | (go_at_call 232; refine (HA.out).mono ?_; rintro e u ⟨rfl, hb⟩; have HB := WirS.hide hb; clear hb) | (go_at_call 233; refine (HS.out _).mono ?_; rintro e _ ⟨rfl, rfl⟩))
  go_ret
  exact ⟨rfl, HB.out⟩
set_option maxRecDepth 20000 in
set_option maxHeartbeats 4000000 in
theorem sf_g (w : World) (f : Value) :
    Calls Try.prog 244 #[.slice none 0 0, f] w fun e w' => e = .returned (.tuple #[]) ∧ w = w' := by
  have HL := WirS.hide (len0 w)
  have HP := WirS.hide (fun lim => pd_g w f lim)
  go_enter Try.func244, Try.ntmps244
  go_wp2_with (first | (go_at_call 250; refine (HL.out).mono ?_; rintro e _ ⟨rfl, rfl⟩) | (go_at_call 256; refine (HP.out _).mono ?_; rintro e _ ⟨rfl, rfl⟩))
  go_end0
  exact ⟨rfl, rfl⟩
theorem so_g (w : World) (g : Nat) (lb : Array Value) (f : Value) (eg : Enters g) (hit : Nothing w g lb) :
    Calls Try.prog 229 #[.func (.func g) #[] lb, f] w fun e w' => e = .returned (.slice none 0 0) ∧ Below w.heap.size w w' := by
  have HA := WirS.hide (co_g w g lb eg hit)
  have HS := WirS.hide (fun U => sf_g U f)
  clear hit eg
  go_enter Try.func229, Try.ntmps229
  go_wp2_with (first | (go_at_call 243; refine (HA.out).mono ?_; rintro e u ⟨rfl, hb⟩; have HB := WirS.hide hb; clear hb) | (go_at_call 244; refine (HS.out _).mono ?_; rintro e _ ⟨rfl, rfl⟩))
  go_ret
  exact ⟨rfl, HB.out⟩
/-- maps.Keys, of no map. -/
theorem enters_keys : Enters 245 := enters_of Try.func245 (by kernel_rfl) rfl
theorem enters_signers : Enters 234 := enters_of Try.func234 (by kernel_rfl) rfl
set_option maxRecDepth 20000 in
theorem keys_none (w : World) : Calls Try.prog 230 #[.map none] w fun e w' => ∃ B, e = .returned (.func (.func 245) #[] #[.pointer (some ⟨B, 0, none⟩)]) ∧ At w' B TM [.map none] ∧ Below w.heap.size w w' := by
  have HA := WirS.hide (At.new w TM [.map none])
  have HB := WirS.hide (show Below w.heap.size w (w.alloc (.cells #[.map none] TM)) from Below.alloc (Below.refl _ _) (Nat.le_refl _) _)
  go_enter Try.func230, Try.ntmps230
  go_wp2_with fail
  go_ret
  exact ⟨_, rfl, HA.out, HB.out⟩
set_option maxRecDepth 20000 in
theorem asc_bad (w : World) (p : Option Addr) (h : Bad w p) : Calls Try.prog 184 #[.pointer p] w fun e w' => e = .returned (.slice none 0 0) ∧ Below w.heap.size w w' := by
  have HS := WirS.hide (sigs_bad w p h)
  have HK := WirS.hide (keys_none w)
  have HO := WirS.hide (fun (U : World) (B : Nat) (f : Value) (hA : At U B TM [.map none]) => so_g U _ #[.pointer (some ⟨B, 0, none⟩)] f enters_keys (fun W l hW => keys1_none W l B (hA.below hW hA.lt)))
  clear h
  go_enter Try.func184, Try.ntmps184
  go_wp2_with (first | (go_at_call 185; refine (HS.out).mono ?_; rintro e _ ⟨rfl, rfl⟩) | (go_at_call 230; refine (HK.out).mono ?_; rintro e u ⟨B, rfl, hA, hb⟩; have HA := WirS.hide hA; have HB := WirS.hide hb; clear hA hb) | (go_at_call 229; refine (HO.out _ _ _ HA.out).mono ?_; rintro e u2 ⟨rfl, hb⟩; have HB2 := WirS.hide (HB.out.trans (hb.mono HB.out.size)); clear hb))
  go_ret
  exact ⟨rfl, HB2.out⟩
set_option maxRecDepth 20000 in
set_option maxHeartbeats 4000000 in
theorem list_bad (w : World) (p : Option Addr) (h : Bad w p) : Calls Try.prog 94 #[.pointer p] w fun e w' => ∃ a c, e = .returned (.slice a 0 c) ∧ Below w.heap.size w w' := by
  have HL := WirS.hide (len_bad w p h)
  have HO := WirS.hide (fun (U : World) (hU : Below w.heap.size w U) => asc_bad U p (h.below hU))
  have hmk : (Instr.makeSlice 123 (.int .i64 0) (.int .i64 0)).run Try.prog w = .ok (.slice (some ⟨w.heap.size, 0, none⟩) 0 0) (w.alloc (.cells #[] 132)) := by kernel_rfl
  have HB := WirS.hide (show Below w.heap.size w (w.alloc (.cells #[] 132)) from Below.alloc (Below.refl _ _) (Nat.le_refl _) _)
  clear h
  go_enter Try.func94, Try.ntmps94
  go_upto_region 2 with (go_at_call 93; refine (HL.out).mono ?_; rintro e _ ⟨rfl, rfl⟩)
  generalize w.alloc _ = z at *
  go_wp2_with (go_at_call 184; refine (HO.out _ HB.out).mono ?_; rintro e u ⟨rfl, hb⟩; have HB2 := WirS.hide (HB.out.trans (hb.mono HB.out.size)); clear hb)
  go_loopw [3, 12] (fun s i wr => s = .slice (some ⟨w.heap.size, 0, none⟩) 0 0 ∧ i = .int .i64 0 ∧ wr = u) (fun _ _ _ => 0)
  case atStart => exact ⟨rfl, rfl, rfl⟩
  case round =>
    obtain ⟨rfl, rfl, rfl⟩ := hrel
    go_wp2_with fail
    go_ret
    exact ⟨_, _, rfl, HB2.out⟩
set_option maxRecDepth 20000 in
set_option maxHeartbeats 4000000 in
theorem signers_any (w : World) (p : Option Addr) (l : List Int) : Calls Try.prog 188 #[.pointer p, .agg (b8 l).toArray] w fun e w' => ∃ T1 H1, e = .returned (.func (.func 234) #[] #[.pointer (some ⟨T1, 0, none⟩), .pointer (some ⟨H1, 0, none⟩)]) ∧ At w' T1 124 [.pointer p] ∧ Below w.heap.size w w' := by
  have hA := At.new w 124 [.pointer p]
  have hB : Below w.heap.size w (w.alloc (.cells #[.pointer p] 124)) := Below.alloc (Below.refl _ _) (Nat.le_refl _) _
  have hB2 : Below (w.alloc (.cells #[.pointer p] 124)).heap.size (w.alloc (.cells #[.pointer p] 124)) ((w.alloc (.cells #[.pointer p] 124)).alloc (.cells (b8 l).toArray 34)) := Below.alloc (Below.refl _ _) (Nat.le_refl _) _
  have HA := WirS.hide (hA.below hB2 hA.lt)
  have HB := WirS.hide (hB.trans (hB2.mono hB.size))
  clear hA hB hB2
  go_enter Try.func188, Try.ntmps188
  go_upto_region 0 with fail
  refine wp_region_lit ?_
  refine sV (.pointer (some ⟨w.heap.size, 0, none⟩)) (w.alloc (.cells #[.pointer p] 124)) (by kernel_rfl) (by kernel_rfl) ?_
  simp only [Act.put, List.setIfInBounds_toArray, List.set_cons_succ, List.set_cons_zero]
  refine sV (.pointer (some ⟨(w.alloc (.cells #[.pointer p] 124)).heap.size, 0, none⟩)) ((w.alloc (.cells #[.pointer p] 124)).alloc (.cells (b8 l).toArray 34)) (by kernel_rfl) (by kernel_rfl) ?_
  simp only [Act.put, List.setIfInBounds_toArray, List.set_cons_succ, List.set_cons_zero]
  go_wp2_with fail
  go_ret
  exact ⟨_, _, rfl, HA.out, HB.out⟩
set_option maxRecDepth 20000 in
theorem cp0 (w : World) : Calls Try.prog 186 #[.slice none 0 0] w fun e w' => e = .returned (.slice none 0 0) ∧ w = w' := by
  go_enter Try.func186, Try.ntmps186
  go_wp2_with fail
  go_ret
  exact ⟨rfl, rfl⟩
set_option maxRecDepth 20000 in
set_option maxHeartbeats 4000000 in
theorem who_bad (w : World) (p : Option Addr) (l : List Int) (hl : l.length = 32) (h : Bad w p) : Calls Try.prog 92 #[.pointer p, .agg (b8 l).toArray] w fun e w' => e = .returned (.slice none 0 0) ∧ Below w.heap.size w w' := by
  have hA := At.new w 34 (b8 l)
  have hB : Below w.heap.size w (w.alloc (.cells (b8 l).toArray 34)) := Below.alloc (Below.refl _ _) (Nat.le_refl _) _
  have HA := WirS.hide hA
  have HB := WirS.hide hB
  have HL := WirS.hide (show (b8 l).length = 32 by rw [b8_len, hl])
  have HP := WirS.hide (fun U (hU : Below w.heap.size w U) => h.below hU)
  have HO := WirS.hide (fun (U : World) (T1 H1 : Nat) (f : Value) (hT : At U T1 124 [.pointer p]) (hb : Bad U p) => so_k U _ #[.pointer (some ⟨T1, 0, none⟩), .pointer (some ⟨H1, 0, none⟩)] f enters_signers (fun W y hW => sig1_none W y T1 H1 p (hT.below hW hT.lt) (hb.below hW)))
  have HC := WirS.hide (fun U => cp0 U)
  clear hA hB hl h
  go_enter Try.func92, Try.ntmps92
  go_upto_region 0 with fail
  refine wp_region_lit ?_
  refine sV (.pointer (some ⟨w.heap.size, 0, none⟩)) (w.alloc (.cells (b8 l).toArray 34)) (by kernel_rfl) (by kernel_rfl) ?_
  simp only [Act.put, List.setIfInBounds_toArray, List.set_cons_succ, List.set_cons_zero]
  go_upto_region 1 with fail
  refine wp_region_lit ?_
  refine sV (.pointer p) (w.alloc (.cells (b8 l).toArray 34)) (by kernel_rfl) (by kernel_rfl) ?_
  simp only [Act.put, List.setIfInBounds_toArray, List.set_cons_succ, List.set_cons_zero]
  refine sL (by kernel_rfl) _ _ (by rfl) _ (by kernel_rfl) HA.out _ _ Try.underlying34 rfl (by kernel_rfl) (by rw [HL.out]) ?_
  simp only [Act.put, List.setIfInBounds_toArray, List.set_cons_succ, List.set_cons_zero]
  generalize World.alloc w _ = z at *
  refine WirAB.sCx (by kernel_rfl) (by kernel_rfl) (signers_any z p l) ?_
  rintro e u ⟨T1, H1, rfl, hT, hb⟩
  refine ⟨_, rfl, ?_⟩
  simp only [Act.put, List.setIfInBounds_toArray, List.set_cons_succ, List.set_cons_zero]
  have HT := WirS.hide hT
  have HB1 := WirS.hide (HB.out.trans (hb.mono HB.out.size))
  clear hT hb HB HA
  go_wp2_with (first | (go_at_call 187; refine (HO.out _ _ _ _ HT.out (HP.out _ HB1.out)).mono ?_; rintro e u2 ⟨rfl, hb⟩; have HB2 := WirS.hide (HB1.out.trans (hb.mono HB1.out.size)); clear hb) | (go_at_call 186; refine (HC.out _).mono ?_; rintro e _ ⟨rfl, rfl⟩))
  go_ret
  exact ⟨rfl, HB2.out⟩
end SgI
end Go.Proofs.Ythcemghamdmjmaa
