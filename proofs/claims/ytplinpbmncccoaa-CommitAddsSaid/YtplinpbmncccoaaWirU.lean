/-
  Writers and readers that a statement made itself: what their calls leave, above the memory that came in. SameBytes; the chapter's bytes.
-/
import Derived.Test.YtplinpbmncccoaaWirT
import Derived.Test.YtplinpbmncccoaaPaceW
import Derived.Lib.Bytes
namespace Go.Proofs.Ytplinpbmncccoaa
namespace WirU
open Go.RowKit
open BlkM WirM WirS WirA WirB WirC WirD WirE WirF WirG WirH WirI WirJ WirK WirL WirN WirO WirP WirQ WirR WirT

/-- A writer that was made behind w0. -/
structure LW (w0 w : World) (W : Nat) (lim : Int) (v : Value) (zs : List Int) (err : Int) : Prop where
  st : WSt w W lim v zs err
  up : w0.heap.size ≤ W
  new : NewB w0 v
  low : Below w0.heap.size w0 w
def LWp (w0 : World) (W : Nat) (lim : Int) (zs' : List Int) (err' : Int) (e : Ending) (w' : World) : Prop := e = .returned (.int .i64 err') ∧ ∃ v', LW w0 w' W lim v' zs' err'
theorem LW.size {w0 w : World} {W : Nat} {lim : Int} {v : Value} {zs : List Int} {err : Int} (h : LW w0 w W lim v zs err) : w0.heap.size ≤ w.heap.size := h.low.size
theorem Step.low {w0 w w' : World} {W : Nat} {v v' : Value} (hs : Step w W v w' v') (hW : w0.heap.size ≤ W) (hv : NewB w0 v) (hb : Below w0.heap.size w0 w) : Below w0.heap.size w0 w' ∧ NewB w0 v' :=
  ⟨hb.trans (hs.1.below hb.size (fun k hk hx => by
    rcases hx with rfl | hx
    · omega
    · have := hv k hx
      omega)), fun k hk => by
    rcases hs.2 k hk with hx | hx
    · exact hv k hx
    · exact Nat.le_trans hb.size hx⟩
theorem lw_of {w0 w : World} {W : Nat} {lim : Int} {v : Value} {zs zs' : List Int} {err err' : Int} {f : FuncId} {args : Array Value} (h : LW w0 w W lim v zs err) (C : Calls Try.prog f args w (Wrote w W lim v zs' err')) : Calls Try.prog f args w (LWp w0 W lim zs' err') :=
  C.mono fun _ _ ⟨h1, v', h2, h3⟩ => ⟨h1, v', h2, h.up, (Step.low h3 h.up h.new h.low).2, (Step.low h3 h.up h.new h.low).1⟩
/-- What is above may grow: a world behind. -/
theorem LW.more {w0 w w' : World} {W : Nat} {lim : Int} {v : Value} {zs : List Int} {err : Int} (h : LW w0 w W lim v zs err) (hb : Below w.heap.size w w') : LW w0 w' W lim v zs err :=
  ⟨h.st.below hb, h.up, h.new, h.low.trans (hb.mono h.low.size)⟩
/-- A reader that was made behind w0. -/
structure LR (w0 w : World) (R : Nat) (a : Option Addr) (c : Nat) (bs : List Int) (at' : Nat) (fe fa : Int) : Prop where
  st : RSt w R a c bs at' fe fa
  up : w0.heap.size ≤ R
  low : Below w0.heap.size w0 w
theorem LR.more {w0 w w' : World} {R : Nat} {a : Option Addr} {c : Nat} {bs : List Int} {at' : Nat} {fe fa : Int} (h : LR w0 w R a c bs at' fe fa) (hb : Below w.heap.size w w') : LR w0 w' R a c bs at' fe fa :=
  ⟨h.st.below hb, h.up, h.low.trans (hb.mono h.low.size)⟩
theorem fr_low {w0 w w' : World} {R : Nat} (hf : Fr (Xr R) w w') (hR : w0.heap.size ≤ R) (hb : Below w0.heap.size w0 w) : Below w0.heap.size w0 w' :=
  hb.trans (hf.below hb.size (fun k hk hx => by have : k = R := hx; omega))
/-- What is read without a fault. -/
def LRp (w0 : World) (R : Nat) (a : Option Addr) (c : Nat) (bs : List Int) (v : Value) (p : Nat) (e : Ending) (w' : World) : Prop := e = .returned v ∧ LR w0 w' R a c bs p 0 0
theorem lr_of {α : Type} {f : α → Value} {w0 w : World} {R : Nat} {a : Option Addr} {c : Nat} {bs : List Int} {at' p : Nat} {g : FuncId} {args : Array Value} {zero : Value} {o : Sum Int (α × Nat)} {x : α} (h : LR w0 w R a c bs at' 0 0) (ho : o = .inr (x, p))
    (C : Calls Try.prog g args w (ReadPost w R a c bs at' zero (outOf f o))) : Calls Try.prog g args w (LRp w0 R a c bs (f x) p) := by
  subst ho
  exact C.mono fun _ _ ⟨v, h1, h2, h3, h4⟩ => ⟨by rw [h1, h2], h3, h.up, fr_low h4 h.up h.low⟩

/-! ### SameBytes -/
theorem st_inj {zs ys : List Int} (hz : ∀ x ∈ zs, 0 ≤ x ∧ x < 256) (hy : ∀ x ∈ ys, 0 ≤ x ∧ x < 256) (h1 : (st zs).toList = (st ys).toList) : zs = ys := by
  unfold st at h1
  rw [Lib.strOfNums_toList, Lib.strOfNums_toList] at h1
  have key : ∀ (l : List Int), (∀ x ∈ l, 0 ≤ x ∧ x < 256) → (Lib.bytesOf l).map (fun b => (b.toNat : Int)) = l := by
    intro l hl
    induction l with
    | nil => rfl
    | cons x l ih =>
      have hx := hl x (by simp)
      simp only [Lib.bytesOf, List.map_cons] at ih ⊢
      rw [ih (fun y hy => hl y (by simp [hy]))]
      congr 1
      have : x.toNat < 256 := by omega
      simp [Nat.mod_eq_of_lt this]
      omega
  rw [← key zs hz, ← key ys hy, h1]
theorem same_any (w : World) (a b : Option Addr) (n c m d : Nat) (zs ys : List Int) (hx : BIn w (.slice a n c) zs) (hy : BIn w (.slice b m d) ys) (rz : ∀ x ∈ zs, 0 ≤ x ∧ x < 256) (ry : ∀ x ∈ ys, 0 ≤ x ∧ x < 256) :
    Calls Try.prog 29 #[.slice a n c, .slice b m d] w fun e w' => e = .returned (.bool (decide (zs = ys))) ∧ w = w' := by
  have h1 := conv_any w a n c zs hx
  have h2 := conv_any w b m d ys hy
  have hq : ((st zs).toList == (st ys).toList) = decide (zs = ys) := by
    by_cases h : zs = ys
    · subst h; simp
    · have hne : ¬ (st zs).toList = (st ys).toList := fun e => h (st_inj rz ry e)
      simp [h, hne]
  have HQ := hide hq
  clear hq
  generalize st zs = s at h1 HQ
  generalize st ys = t at h2 HQ
  clear hx hy
  go_enter Try.func29, Try.ntmps29
  go_wp2
  go_ret
  exact ⟨by rw [← HQ.out]; rfl, rfl⟩
end WirU
end Go.Proofs.Ytplinpbmncccoaa
