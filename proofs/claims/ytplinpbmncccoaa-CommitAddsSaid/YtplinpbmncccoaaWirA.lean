/-
  The program's writer: what it is in memory; state, fail, put.
-/
import Derived.Test.YtplinpbmncccoaaWirS
namespace Go.Proofs.Ytplinpbmncccoaa
namespace WirA
open Go.RowKit
open BlkM WirM WirS

/-- A writer, as NewWriter returned it: its block, its limit, its bytes, its error. -/
def wcells (W : Nat) (lim : Int) (v : Value) (err : Int) : List Value := [.pointer (some ⟨W, 0, none⟩), .int .i64 lim, v, .int .i64 err]
structure WSt (w : World) (W : Nat) (lim : Int) (v : Value) (zs : List Int) (err : Int) : Prop where
  at' : At w W 59 (wcells W lim v err)
  own : Own w 5 v zs
  off : v.ownBlock ≠ some W
  low : 0 ≤ lim
  high : lim ≤ 1048576
  fits : (zs.length : Int) ≤ lim
/-- The blocks that a writer may change. -/
def Xw (W : Nat) (v : Value) (k : Nat) : Prop := k = W ∨ v.ownBlock = some k
theorem WSt.lt {w : World} {W : Nat} {lim : Int} {v : Value} {zs : List Int} {err : Int} (h : WSt w W lim v zs err) : W < w.heap.size := h.at'.lt
theorem WSt.fr {X : Nat → Prop} {w w' : World} {W : Nat} {lim : Int} {v : Value} {zs : List Int} {err : Int} (h : WSt w W lim v zs err) (hf : Fr X w w') (hX : ∀ k, Xw W v k → ¬ X k) : WSt w' W lim v zs err :=
  ⟨At.fr h.at' hf (hX W (.inl rfl)), h.own.fr hf (fun k hk => hX k (.inr hk)), h.off, h.low, h.high, h.fits⟩
theorem WSt.below {w w' : World} {W : Nat} {lim : Int} {v : Value} {zs : List Int} {err : Int} (h : WSt w W lim v zs err) (hb : Below w.heap.size w w') : WSt w' W lim v zs err :=
  h.fr (X := fun _ => False) (Fr.of_below hb) (fun _ _ h => h)
/-- What one call may do to the world. -/
def Step (w : World) (W : Nat) (v : Value) (w' : World) (v' : Value) : Prop := Fr (Xw W v) w w' ∧ NewOr w v v'
theorem Step.refl (w : World) (W : Nat) (v : Value) : Step w W v w v := ⟨Fr.refl _ _, NewOr.refl _ _⟩
theorem Step.trans {w w1 w2 : World} {W : Nat} {v v1 v2 : Value} (h : Step w W v w1 v1) (k : Step w1 W v1 w2 v2) : Step w W v w2 v2 :=
  ⟨h.1.trans' k.1 (fun i hi hx => by
    rcases hx with rfl | hx
    · exact .inl rfl
    · rcases h.2 i hx with hx | hx
      · exact .inr hx
      · omega), fun i hi => by
    rcases k.2 i hi with hx | hx
    · exact h.2 i hx
    · exact .inr (Nat.le_trans h.1.size hx)⟩
theorem Step.of_below {w w' : World} {W : Nat} {v : Value} (h : Below w.heap.size w w') : Step w W v w' v := ⟨Fr.of_below h, NewOr.refl _ _⟩
def putE (lim err : Int) (zs : List Int) (n : Nat) : Int := if err ≠ 0 then err else if lim < (zs.length : Int) + (n : Int) then 4 else 0
def putZ (lim err : Int) (zs news : List Int) : List Int := if putE lim err zs news.length = 0 then zs ++ news else zs
/-- What a writing call answers, and what there is then. -/
def Wrote (w : World) (W : Nat) (lim : Int) (v : Value) (zs' : List Int) (err' : Int) (e : Ending) (w' : World) : Prop :=
  e = .returned (.int .i64 err') ∧ ∃ v', WSt w' W lim v' zs' err' ∧ Step w W v w' v'
/-- No writer: nil, or one that nobody made. -/
def NoW (w : World) (p : Option Addr) : Prop := p = none ∨ ∃ S, p = some ⟨S, 0, none⟩ ∧ w.cell? ⟨S, 0, none⟩ = some (.pointer none)

theorem state_any (w : World) (W : Nat) (lim : Int) (v : Value) (zs : List Int) (err : Int) (h : WSt w W lim v zs err) : Calls Try.prog 105 #[.pointer (some ⟨W, 0, none⟩)] w fun e w' => e = .returned (.int .i64 err) ∧ w = w' := by
  have c0 : w.cell? ⟨W, 0, none⟩ = some (.pointer (some ⟨W, 0, none⟩)) := by rw [h.at'.cell]; rfl
  have c3 : w.cell? ⟨W, 3, none⟩ = some (.int .i64 err) := by rw [h.at'.cell]; rfl
  have hq := ptr_ne Try.underlying25 (by kernel_rfl) W
  clear h
  go_enter Try.func105, Try.ntmps105
  go_wp2
  go_ret
  exact ⟨rfl, rfl⟩
theorem state_nil (w : World) : Calls Try.prog 105 #[.pointer none] w fun e w' => e = .returned (.int .i64 1) ∧ w = w' := by
  go_enter Try.func105, Try.ntmps105
  go_wp2
  go_ret
  exact ⟨rfl, rfl⟩
theorem state_no (w : World) (S : Nat) (c0 : w.cell? ⟨S, 0, none⟩ = some (.pointer none)) : Calls Try.prog 105 #[.pointer (some ⟨S, 0, none⟩)] w fun e w' => e = .returned (.int .i64 1) ∧ w = w' := by
  have hq := nil_ne Try.underlying25 S
  go_enter Try.func105, Try.ntmps105
  go_wp2
  go_ret
  exact ⟨rfl, rfl⟩
theorem state_none (w : World) (p : Option Addr) (h : NoW w p) : Calls Try.prog 105 #[.pointer p] w fun e w' => e = .returned (.int .i64 1) ∧ w = w' := by
  rcases h with rfl | ⟨S, rfl, hc⟩
  · exact state_nil w
  · exact state_no w S hc

theorem fail_none (w : World) (p : Option Addr) (c : Int) (h : NoW w p) : Calls Try.prog 147 #[.pointer p, .int .i64 c] w fun e w' => e = .returned (.int .i64 1) ∧ w = w' := by
  have H := hide (fun W (k : NoW W p) => state_none W p k)
  have HN := hide h
  clear h
  go_enter Try.func147, Try.ntmps147
  go_wp2_with ((go_at_call 105; refine (H.out _ HN.out).mono ?_; rintro e w1 ⟨rfl, rfl⟩))
  go_ret
  exact ⟨rfl, rfl⟩
theorem fail_err (w : World) (W : Nat) (lim : Int) (v : Value) (zs : List Int) (err c : Int) (h : WSt w W lim v zs err) (he : err ≠ 0) : Calls Try.prog 147 #[.pointer (some ⟨W, 0, none⟩), .int .i64 c] w fun e w' => e = .returned (.int .i64 err) ∧ w = w' := by
  have H := hide (state_any w W lim v zs err h)
  have hb : (err != 0) = true := by simpa using he
  have hb2 : (err == 0) = false := by simpa using he
  clear h he
  go_enter Try.func147, Try.ntmps147
  go_wp2_with ((go_at_call 105; refine (H.out).mono ?_; rintro e w1 ⟨rfl, rfl⟩))
  go_ret
  exact ⟨rfl, rfl⟩
theorem fail_ok (w : World) (W : Nat) (lim : Int) (v : Value) (zs : List Int) (c : Int) (h : WSt w W lim v zs 0) : Calls Try.prog 147 #[.pointer (some ⟨W, 0, none⟩), .int .i64 c] w (Wrote w W lim v zs c) := by
  have H := hide (state_any w W lim v zs 0 h)
  have c3 : w.cell? ⟨W, 3, none⟩ = some (.int .i64 0) := by rw [h.at'.cell]; rfl
  have f3 : w.frozen? ⟨W, 3, none⟩ = false := h.at'.frozen 3
  have HH := hide h
  clear h
  go_enter Try.func147, Try.ntmps147
  go_wp2_with ((go_at_call 105; refine (H.out).mono ?_; rintro e w1 ⟨rfl, rfl⟩))
  go_ret
  have h := HH.out
  have hF : Fr (Xw W v) w (w.setCell ⟨W, 3, none⟩ (.int .i64 c)) := (Fr.refl _ w).setCell W 3 _ (fun _ => .inl rfl)
  exact ⟨rfl, v, ⟨h.at'.setCell 3 (.int .i64 c), h.own.fr (X := fun k => k = W) ((Fr.refl _ w).setCell W 3 _ (fun _ => rfl)) (fun k hk hx => h.off (by rw [hk, hx])), h.off, h.low, h.high, h.fits⟩, hF, NewOr.refl _ _⟩
/-- A failure of whatever writer: the first error stays. -/
theorem fail_any (w : World) (W : Nat) (lim : Int) (v : Value) (zs : List Int) (err c : Int) (h : WSt w W lim v zs err) : Calls Try.prog 147 #[.pointer (some ⟨W, 0, none⟩), .int .i64 c] w (Wrote w W lim v zs (if err ≠ 0 then err else c)) := by
  by_cases he : err = 0
  · subst he
    exact fail_ok w W lim v zs c h
  · rw [if_pos he]
    exact (fail_err w W lim v zs err c h he).mono fun e w' ⟨h1, h2⟩ => by subst h2; exact ⟨h1, v, h, Step.refl _ _ _⟩
end WirA
end Go.Proofs.Ytplinpbmncccoaa
