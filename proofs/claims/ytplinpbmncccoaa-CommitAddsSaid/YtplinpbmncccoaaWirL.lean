/-
  The program's reader: Num, Text, Bytes, Rest, End, NewReader.
-/
import Derived.Test.YtplinpbmncccoaaWirK
namespace Go.Proofs.Ytplinpbmncccoaa
namespace WirL
open Go.RowKit
open BlkM WirM WirS WirA WirB WirE WirF WirG WirH WirI WirJ WirK

theorem num_none (w : World) (p : Option Addr) (h : NoR w p) (hp : ∀ S, p = some ⟨S, 0, none⟩ → S < w.heap.size) : Calls Try.prog 37 #[.pointer p] w fun e w' => e = .returned (.int .i64 0) ∧ Below w.heap.size w w' := by
  have H := hide (fun fv => read_none_int w p fv h hp)
  have hmf : ∀ (fn : Fn) (first cap : Array Value) (w : World), (Instr.makeFunc fn first cap).run Try.prog w = .ok (.func fn first cap) w := fun _ _ _ _ => rfl
  clear h hp
  go_enter Try.func37, Try.ntmps37
  go_wp2_with ((go_at_call 118; refine (H.out _).mono ?_; rintro e w1 ⟨rfl, h2⟩; have HB := hide h2; clear h2))
  go_ret
  exact ⟨rfl, HB.out⟩
theorem num_fault (w : World) (R : Nat) (a : Option Addr) (c : Nat) (bs : List Int) (at' : Nat) (fe fa : Int) (h : RSt w R a c bs at' fe fa) (he : fe ≠ 0) : Calls Try.prog 37 #[.pointer (some ⟨R, 0, none⟩)] w fun e w' => e = .returned (.int .i64 0) ∧ Below w.heap.size w w' := by
  have H := hide (fun fv => read_fault_int w R a c bs at' fe fa fv h he)
  have hmf : ∀ (fn : Fn) (first cap : Array Value) (w : World), (Instr.makeFunc fn first cap).run Try.prog w = .ok (.func fn first cap) w := fun _ _ _ _ => rfl
  clear h he
  go_enter Try.func37, Try.ntmps37
  go_wp2_with ((go_at_call 118; refine (H.out _).mono ?_; rintro e w1 ⟨rfl, h2⟩; have HB := hide h2; clear h2))
  go_ret
  exact ⟨rfl, HB.out⟩
theorem num_read (w : World) (R : Nat) (a : Option Addr) (c : Nat) (bs : List Int) (at' : Nat) (h : RSt w R a c bs at' 0 0) : Calls Try.prog 37 #[.pointer (some ⟨R, 0, none⟩)] w (ReadPost w R a c bs at' (.int .i64 0) (outOf (Value.int .i64) (numO bs at'))) := by
  have H := hide (read_int w R a c bs at' (.pointer (some ⟨R, 0, none⟩)) (outOf (Value.int .i64) (numO bs at')) h (fun W _ hR => takeNumber_any W R a c bs at' hR))
  have hmf : ∀ (fn : Fn) (first cap : Array Value) (w : World), (Instr.makeFunc fn first cap).run Try.prog w = .ok (.func fn first cap) w := fun _ _ _ _ => rfl
  generalize hO : outOf (Value.int .i64) (numO bs at') = O at H ⊢
  clear h
  cases O with
  | inl code =>
    clear hO
    go_enter Try.func37, Try.ntmps37
    go_wp2_with ((go_at_call 118; refine (H.out).mono ?_; rintro e w1 ⟨rfl, h2⟩; have HH := hide h2; clear h2))
    go_ret
    exact ⟨rfl, HH.out⟩
  | inr x =>
    clear hO
    go_enter Try.func37, Try.ntmps37
    go_wp2_with ((go_at_call 118; refine (H.out).mono ?_; rintro e w1 ⟨v, rfl, h2⟩; have HH := hide h2; clear h2))
    first | exact ⟨_, rfl, HH.out⟩ | (go_ret; exact ⟨_, rfl, HH.out⟩)
/-- The world behind two boxes. -/
def W2 (w : World) (p : Value) (most : Int) : World := (w.alloc (.cells #[p] 48)).alloc (.cells #[.int .i64 most] 3)
theorem W2_below (w : World) (p : Value) (most : Int) : Below w.heap.size w (W2 w p most) := Below.alloc (Below.alloc (Below.refl _ _) (Nat.le_refl _) _) (by simp) _
theorem W2_at1 (w : World) (p : Value) (most : Int) : At (W2 w p most) w.heap.size 48 [p] := At.alloc (At.new w _ [_]) _
theorem W2_at2 (w : World) (p : Value) (most : Int) : At (W2 w p most) (w.heap.size + 1) 3 [.int .i64 most] := by
  have := At.new (w.alloc (.cells #[p] 48)) 3 [.int .i64 most]
  rw [World.size_alloc] at this
  exact this
theorem Below.two {w W : World} {p : Value} {most : Int} (h : Below (W2 w p most).heap.size (W2 w p most) W) : Below w.heap.size w W := (W2_below w p most).trans (h.mono (W2_below w p most).size)
theorem text_none (w : World) (p : Option Addr) (most : Int) (h : NoR w p) (hp : ∀ S, p = some ⟨S, 0, none⟩ → S < w.heap.size) : Calls Try.prog 38 #[.pointer p, .int .i64 most] w fun e w' => e = .returned (.string ⟨#[]⟩) ∧ Below w.heap.size w w' := by
  have H := hide (fun fv => read_none_text (W2 w (.pointer p) most) p fv (by
    rcases h with rfl | ⟨S, rfl, hc⟩
    · exact .inl rfl
    · exact .inr ⟨S, rfl, ((W2_below w _ most).cell (hp S rfl)).trans hc⟩) (fun S hS => Nat.lt_of_lt_of_le (hp S hS) (W2_below w _ most).size))
  obtain ⟨W0, e0⟩ : ∃ X, X = W2 w (.pointer p) most := ⟨_, rfl⟩
  rw [← e0] at H
  have E0 := hide e0
  have hmf : ∀ (fn : Fn) (first cap : Array Value) (w : World), (Instr.makeFunc fn first cap).run Try.prog w = .ok (.func fn first cap) w := fun _ _ _ _ => rfl
  have hc : W0.cell? ⟨w.heap.size, 0, none⟩ = some (.pointer p) := by rw [e0]; exact (W2_at1 _ _ _).cell 0
  clear h hp e0
  go_enter Try.func38, Try.ntmps38
  go_upto_region 1 with fail
  rw [show (w.alloc (.cells #[.pointer p] 48)).alloc (.cells #[.int .i64 most] 3) = W0 from E0.out.symm]
  go_wp2_with ((go_at_call 120; refine (H.out _).mono ?_; rintro e w1 ⟨rfl, h2⟩; have HB := hide h2; clear h2))
  go_ret
  have hb := HB.out
  rw [E0.out] at hb
  exact ⟨rfl, Below.two hb⟩
theorem text_fault (w : World) (R : Nat) (a : Option Addr) (c : Nat) (bs : List Int) (at' : Nat) (fe fa most : Int) (h : RSt w R a c bs at' fe fa) (he : fe ≠ 0) : Calls Try.prog 38 #[.pointer (some ⟨R, 0, none⟩), .int .i64 most] w fun e w' => e = .returned (.string ⟨#[]⟩) ∧ Below w.heap.size w w' := by
  have H := hide (fun fv => read_fault_text (W2 w (.pointer (some ⟨R, 0, none⟩)) most) R a c bs at' fe fa fv (h.below (W2_below _ _ _)) he)
  obtain ⟨W0, e0⟩ : ∃ X, X = W2 w (.pointer (some ⟨R, 0, none⟩)) most := ⟨_, rfl⟩
  rw [← e0] at H
  have E0 := hide e0
  have hmf : ∀ (fn : Fn) (first cap : Array Value) (w : World), (Instr.makeFunc fn first cap).run Try.prog w = .ok (.func fn first cap) w := fun _ _ _ _ => rfl
  have hc : W0.cell? ⟨w.heap.size, 0, none⟩ = some (.pointer (some ⟨R, 0, none⟩)) := by rw [e0]; exact (W2_at1 _ _ _).cell 0
  clear h he e0
  go_enter Try.func38, Try.ntmps38
  go_upto_region 1 with fail
  rw [show (w.alloc (.cells #[.pointer (some ⟨R, 0, none⟩)] 48)).alloc (.cells #[.int .i64 most] 3) = W0 from E0.out.symm]
  go_wp2_with ((go_at_call 120; refine (H.out _).mono ?_; rintro e w1 ⟨rfl, h2⟩; have HB := hide h2; clear h2))
  go_ret
  have hb := HB.out
  rw [E0.out] at hb
  exact ⟨rfl, Below.two hb⟩
theorem text_read (w : World) (R : Nat) (a : Option Addr) (c : Nat) (bs : List Int) (at' : Nat) (most : Int) (h : RSt w R a c bs at' 0 0) : Calls Try.prog 38 #[.pointer (some ⟨R, 0, none⟩), .int .i64 most] w (ReadPost w R a c bs at' (.string ⟨#[]⟩) (outOf (fun zs => Value.string (st zs)) (sizedO bs at' most))) := by
  have H := hide (read_text (W2 w (.pointer (some ⟨R, 0, none⟩)) most) R a c bs at' (.pointer (some ⟨w.heap.size, 0, none⟩)) (.pointer (some ⟨w.heap.size + 1, 0, none⟩)) (outOf (fun zs => Value.string (st zs)) (sizedO bs at' most)) (h.below (W2_below _ _ _))
    (fun W hb hR => textC W R a c bs at' w.heap.size (w.heap.size + 1) most hR (((W2_at1 _ _ _).below hb (W2_at1 _ _ _).lt).cell 0) (((W2_at2 _ _ _).below hb (W2_at2 _ _ _).lt).cell 0)))
  obtain ⟨W0, e0⟩ : ∃ X, X = W2 w (.pointer (some ⟨R, 0, none⟩)) most := ⟨_, rfl⟩
  have HB := hide (W2_below w (.pointer (some ⟨R, 0, none⟩)) most)
  rw [← e0] at H HB
  have E0 := hide e0
  have hmf : ∀ (fn : Fn) (first cap : Array Value) (w : World), (Instr.makeFunc fn first cap).run Try.prog w = .ok (.func fn first cap) w := fun _ _ _ _ => rfl
  have hc : W0.cell? ⟨w.heap.size, 0, none⟩ = some (.pointer (some ⟨R, 0, none⟩)) := by rw [e0]; exact (W2_at1 _ _ _).cell 0
  generalize hO : outOf (fun zs => Value.string (st zs)) (sizedO bs at' most) = O at H ⊢
  clear h e0
  cases O with
  | inl code =>
    clear hO
    go_enter Try.func38, Try.ntmps38
    go_upto_region 1 with fail
    rw [show (w.alloc (.cells #[.pointer (some ⟨R, 0, none⟩)] 48)).alloc (.cells #[.int .i64 most] 3) = W0 from E0.out.symm]
    go_wp2_with ((go_at_call 120; refine (H.out).mono ?_; rintro e w1 ⟨rfl, h2⟩; have HH := hide h2; clear h2))
    go_ret
    exact ReadPost.pre HB.out ⟨rfl, HH.out⟩
  | inr x =>
    clear hO
    go_enter Try.func38, Try.ntmps38
    go_upto_region 1 with fail
    rw [show (w.alloc (.cells #[.pointer (some ⟨R, 0, none⟩)] 48)).alloc (.cells #[.int .i64 most] 3) = W0 from E0.out.symm]
    go_wp2_with ((go_at_call 120; refine (H.out).mono ?_; rintro e w1 ⟨v, rfl, h2⟩; have HH := hide h2; clear h2))
    first | exact ReadPost.pre HB.out ⟨_, rfl, HH.out⟩ | (go_ret; exact ReadPost.pre HB.out ⟨_, rfl, HH.out⟩)
theorem bytes_none (w : World) (p : Option Addr) (most : Int) (h : NoR w p) (hp : ∀ S, p = some ⟨S, 0, none⟩ → S < w.heap.size) : Calls Try.prog 39 #[.pointer p, .int .i64 most] w fun e w' => e = .returned (.slice none 0 0) ∧ Below w.heap.size w w' := by
  have H := hide (fun fv => read_none_bytes (W2 w (.pointer p) most) p fv (by
    rcases h with rfl | ⟨S, rfl, hc⟩
    · exact .inl rfl
    · exact .inr ⟨S, rfl, ((W2_below w _ most).cell (hp S rfl)).trans hc⟩) (fun S hS => Nat.lt_of_lt_of_le (hp S hS) (W2_below w _ most).size))
  obtain ⟨W0, e0⟩ : ∃ X, X = W2 w (.pointer p) most := ⟨_, rfl⟩
  rw [← e0] at H
  have E0 := hide e0
  have hmf : ∀ (fn : Fn) (first cap : Array Value) (w : World), (Instr.makeFunc fn first cap).run Try.prog w = .ok (.func fn first cap) w := fun _ _ _ _ => rfl
  have hc : W0.cell? ⟨w.heap.size, 0, none⟩ = some (.pointer p) := by rw [e0]; exact (W2_at1 _ _ _).cell 0
  clear h hp e0
  go_enter Try.func39, Try.ntmps39
  go_upto_region 1 with fail
  rw [show (w.alloc (.cells #[.pointer p] 48)).alloc (.cells #[.int .i64 most] 3) = W0 from E0.out.symm]
  go_wp2_with ((go_at_call 124; refine (H.out _).mono ?_; rintro e w1 ⟨rfl, h2⟩; have HB := hide h2; clear h2))
  go_ret
  have hb := HB.out
  rw [E0.out] at hb
  exact ⟨rfl, Below.two hb⟩
theorem bytes_fault (w : World) (R : Nat) (a : Option Addr) (c : Nat) (bs : List Int) (at' : Nat) (fe fa most : Int) (h : RSt w R a c bs at' fe fa) (he : fe ≠ 0) : Calls Try.prog 39 #[.pointer (some ⟨R, 0, none⟩), .int .i64 most] w fun e w' => e = .returned (.slice none 0 0) ∧ Below w.heap.size w w' := by
  have H := hide (fun fv => read_fault_bytes (W2 w (.pointer (some ⟨R, 0, none⟩)) most) R a c bs at' fe fa fv (h.below (W2_below _ _ _)) he)
  obtain ⟨W0, e0⟩ : ∃ X, X = W2 w (.pointer (some ⟨R, 0, none⟩)) most := ⟨_, rfl⟩
  rw [← e0] at H
  have E0 := hide e0
  have hmf : ∀ (fn : Fn) (first cap : Array Value) (w : World), (Instr.makeFunc fn first cap).run Try.prog w = .ok (.func fn first cap) w := fun _ _ _ _ => rfl
  have hc : W0.cell? ⟨w.heap.size, 0, none⟩ = some (.pointer (some ⟨R, 0, none⟩)) := by rw [e0]; exact (W2_at1 _ _ _).cell 0
  clear h he e0
  go_enter Try.func39, Try.ntmps39
  go_upto_region 1 with fail
  rw [show (w.alloc (.cells #[.pointer (some ⟨R, 0, none⟩)] 48)).alloc (.cells #[.int .i64 most] 3) = W0 from E0.out.symm]
  go_wp2_with ((go_at_call 124; refine (H.out _).mono ?_; rintro e w1 ⟨rfl, h2⟩; have HB := hide h2; clear h2))
  go_ret
  have hb := HB.out
  rw [E0.out] at hb
  exact ⟨rfl, Below.two hb⟩
theorem bytes_read (w : World) (R : Nat) (a : Option Addr) (c : Nat) (bs : List Int) (at' : Nat) (most : Int) (h : RSt w R a c bs at' 0 0) : Calls Try.prog 39 #[.pointer (some ⟨R, 0, none⟩), .int .i64 most] w (ReadPost w R a c bs at' (.slice none 0 0) (outB w (sizedO bs at' most))) := by
  have H := hide (read_bytes (W2 w (.pointer (some ⟨R, 0, none⟩)) most) R a c bs at' (.pointer (some ⟨w.heap.size, 0, none⟩)) (.pointer (some ⟨w.heap.size + 1, 0, none⟩)) (outB w (sizedO bs at' most)) (h.below (W2_below _ _ _))
    (fun W hb hR => bytesC w W (Nat.le_trans (W2_below _ _ _).size hb.size) R a c bs at' w.heap.size (w.heap.size + 1) most hR (((W2_at1 _ _ _).below hb (W2_at1 _ _ _).lt).cell 0) (((W2_at2 _ _ _).below hb (W2_at2 _ _ _).lt).cell 0)))
  obtain ⟨W0, e0⟩ : ∃ X, X = W2 w (.pointer (some ⟨R, 0, none⟩)) most := ⟨_, rfl⟩
  have HB := hide (W2_below w (.pointer (some ⟨R, 0, none⟩)) most)
  rw [← e0] at H HB
  have E0 := hide e0
  have hmf : ∀ (fn : Fn) (first cap : Array Value) (w : World), (Instr.makeFunc fn first cap).run Try.prog w = .ok (.func fn first cap) w := fun _ _ _ _ => rfl
  have hc : W0.cell? ⟨w.heap.size, 0, none⟩ = some (.pointer (some ⟨R, 0, none⟩)) := by rw [e0]; exact (W2_at1 _ _ _).cell 0
  generalize hO : outB w (sizedO bs at' most) = O at H ⊢
  clear h e0
  cases O with
  | inl code =>
    clear hO
    go_enter Try.func39, Try.ntmps39
    go_upto_region 1 with fail
    rw [show (w.alloc (.cells #[.pointer (some ⟨R, 0, none⟩)] 48)).alloc (.cells #[.int .i64 most] 3) = W0 from E0.out.symm]
    go_wp2_with ((go_at_call 124; refine (H.out).mono ?_; rintro e w1 ⟨rfl, h2⟩; have HH := hide h2; clear h2))
    go_ret
    exact ReadPost.pre HB.out ⟨rfl, HH.out⟩
  | inr x =>
    clear hO
    go_enter Try.func39, Try.ntmps39
    go_upto_region 1 with fail
    rw [show (w.alloc (.cells #[.pointer (some ⟨R, 0, none⟩)] 48)).alloc (.cells #[.int .i64 most] 3) = W0 from E0.out.symm]
    go_wp2_with ((go_at_call 124; refine (H.out).mono ?_; rintro e w1 ⟨v, rfl, h2⟩; have HH := hide h2; clear h2))
    first | exact ReadPost.pre HB.out ⟨_, rfl, HH.out⟩ | (go_ret; exact ReadPost.pre HB.out ⟨_, rfl, HH.out⟩)
/-! ### Rest, End, NewReader -/
theorem rest_none (w : World) (p : Option Addr) (h : NoR w p) : Calls Try.prog 33 #[.pointer p] w fun e w' => e = .returned (.int .i64 0) ∧ w = w' := by
  have H := hide (reads_none w p h)
  clear h
  go_enter Try.func33, Try.ntmps33
  go_wp2_with ((go_at_call 116; refine (H.out).mono ?_; rintro e w1 ⟨rfl, rfl⟩))
  go_ret
  exact ⟨rfl, rfl⟩
def restN (bs : List Int) (at' : Nat) (fe : Int) : Int := if fe = 0 then (bs.length : Int) - (at' : Int) else 0
theorem rest_any (w : World) (R : Nat) (a : Option Addr) (c : Nat) (bs : List Int) (at' : Nat) (fe fa : Int) (h : RSt w R a c bs at' fe fa) : Calls Try.prog 33 #[.pointer (some ⟨R, 0, none⟩)] w fun e w' => e = .returned (.int .i64 (restN bs at' fe)) ∧ ∃ q, w' = w.drewN q := by
  have H := hide (reads_any w R a c bs at' fe fa h)
  by_cases he : fe = 0
  · subst he
    rw [show restN bs at' 0 = (bs.length : Int) - (at' : Int) from rfl]
    have c1 : w.cell? ⟨R, 1, none⟩ = some (.slice a bs.length c) := by rw [h.cell.cell]; rfl
    have c2 : w.cell? ⟨R, 2, none⟩ = some (.int .i64 (at' : Int)) := by rw [h.cell.cell]; rfl
    have hle := h.le
    have hsm := h.small
    obtain ⟨k, hk⟩ : ∃ k, k = bs.length := ⟨_, rfl⟩
    rw [← hk] at c1 hle hsm ⊢
    have w1 : IntKind.i64.wrap (↑k - ↑at') = (k : Int) - (at' : Int) := IntWalk.i64_in _ (by omega)
    clear h hk
    go_enter Try.func33, Try.ntmps33
    go_upto_region 3 with ((go_at_call 116; refine (H.out).mono ?_; rintro e w1 ⟨rfl, rfl⟩))
    go_quiet (fail)
    go_wp2_with fail
    go_ret
    exact ⟨rfl, _, rfl⟩
  · rw [show restN bs at' fe = 0 by unfold restN; rw [if_neg he]]
    have e0 : (fe == 0) = false := by simpa using he
    rw [e0] at H
    clear h he e0
    go_enter Try.func33, Try.ntmps33
    go_wp2_with ((go_at_call 116; refine (H.out).mono ?_; rintro e w1 ⟨rfl, rfl⟩))
    go_ret
    exact ⟨rfl, 0, rfl⟩
end WirL
end Go.Proofs.Ytplinpbmncccoaa
