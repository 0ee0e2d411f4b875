/-
  WirU, WirV, WirW, WirX, WirY, in one text.
-/
import Derived.Test.YthcemghamdmjmaaPkD
import Derived.Test.YthcemghamdmjmaaPkE
import Derived.Lib.Bytes
namespace Go.Proofs.Ythcemghamdmjmaa
namespace WirU
open Go.RowKit
open BlkM WirM WirS WirA WirB WirC WirD WirE WirF WirG WirH WirI WirJ WirK WirL WirN WirO WirP WirQ WirR WirT

/-- A writer that was made behind w0. -/
structure LW (w0 w : World) (W : Nat) (lim : Int) (v : Value) (zs : List Int) (err : Int) : Prop where
  st : WSt w W lim v zs err
  up : w0.heap.size ≤ W
  new : NewB w0 v
  low : Below w0.heap.size w0 w
def LWp (w0 : World) (W : Nat) (lim : Int) (zs' : List Int) (err' : Int) (e : Ending) (w' : World) : Prop := e = .returned (.int .i64 err') ∧ ∃ v', LW w0 w' W lim v' zs' err'
theorem LW.size {w0 w : World} {W : Nat} {lim : Int} {v : Value} {zs : List Int} {err : Int} (h : LW w0 w W lim v zs err) : w0.heap.size ≤ w.heap.size := h.low.size
theorem Step.low {w0 w w' : World} {W : Nat} {v v' : Value} (hs : Step w W v w' v') (hW : w0.heap.size ≤ W) (hv : NewB w0 v) (hb : Below w0.heap.size w0 w) : Below w0.heap.size w0 w' ∧ NewB w0 v' :=
  ⟨hb.trans (hs.1.below hb.size (fun k hk hx => by
    rcases hx with rfl | hx
    · omega
    · have := hv k hx
      omega)), fun k hk => by
    rcases hs.2 k hk with hx | hx
    · exact hv k hx
    · exact Nat.le_trans hb.size hx⟩
theorem lw_of {w0 w : World} {W : Nat} {lim : Int} {v : Value} {zs zs' : List Int} {err err' : Int} {f : FuncId} {args : Array Value} (h : LW w0 w W lim v zs err) (C : Calls Try.prog f args w (Wrote w W lim v zs' err')) : Calls Try.prog f args w (LWp w0 W lim zs' err') :=
  C.mono fun _ _ ⟨h1, v', h2, h3⟩ => ⟨h1, v', h2, h.up, (Step.low h3 h.up h.new h.low).2, (Step.low h3 h.up h.new h.low).1⟩
/-- What is above may grow: a world behind. -/
theorem LW.more {w0 w w' : World} {W : Nat} {lim : Int} {v : Value} {zs : List Int} {err : Int} (h : LW w0 w W lim v zs err) (hb : Below w.heap.size w w') : LW w0 w' W lim v zs err :=
  ⟨h.st.below hb, h.up, h.new, h.low.trans (hb.mono h.low.size)⟩
/-- A reader that was made behind w0. -/
structure LR (w0 w : World) (R : Nat) (a : Option Addr) (c : Nat) (bs : List Int) (at' : Nat) (fe fa : Int) : Prop where
  st : RSt w R a c bs at' fe fa
  up : w0.heap.size ≤ R
  low : Below w0.heap.size w0 w
theorem LR.more {w0 w w' : World} {R : Nat} {a : Option Addr} {c : Nat} {bs : List Int} {at' : Nat} {fe fa : Int} (h : LR w0 w R a c bs at' fe fa) (hb : Below w.heap.size w w') : LR w0 w' R a c bs at' fe fa :=
  ⟨h.st.below hb, h.up, h.low.trans (hb.mono h.low.size)⟩
theorem fr_low {w0 w w' : World} {R : Nat} (hf : Fr (Xr R) w w') (hR : w0.heap.size ≤ R) (hb : Below w0.heap.size w0 w) : Below w0.heap.size w0 w' :=
  hb.trans (hf.below hb.size (fun k hk hx => by have : k = R := hx; omega))
/-- What is read without a fault. -/
def LRp (w0 : World) (R : Nat) (a : Option Addr) (c : Nat) (bs : List Int) (v : Value) (p : Nat) (e : Ending) (w' : World) : Prop := e = .returned v ∧ LR w0 w' R a c bs p 0 0
theorem lr_of {α : Type} {f : α → Value} {w0 w : World} {R : Nat} {a : Option Addr} {c : Nat} {bs : List Int} {at' p : Nat} {g : FuncId} {args : Array Value} {zero : Value} {o : Sum Int (α × Nat)} {x : α} (h : LR w0 w R a c bs at' 0 0) (ho : o = .inr (x, p))
    (C : Calls Try.prog g args w (ReadPost w R a c bs at' zero (outOf f o))) : Calls Try.prog g args w (LRp w0 R a c bs (f x) p) := by
  subst ho
  exact C.mono fun _ _ ⟨v, h1, h2, h3, h4⟩ => ⟨by rw [h1, h2], h3, h.up, fr_low h4 h.up h.low⟩

/-! ### SameBytes -/
theorem st_inj {zs ys : List Int} (hz : ∀ x ∈ zs, 0 ≤ x ∧ x < 256) (hy : ∀ x ∈ ys, 0 ≤ x ∧ x < 256) (h1 : (st zs).toList = (st ys).toList) : zs = ys := by
  unfold st at h1
  rw [Lib.strOfNums_toList, Lib.strOfNums_toList] at h1
  have key : ∀ (l : List Int), (∀ x ∈ l, 0 ≤ x ∧ x < 256) → (Lib.bytesOf l).map (fun b => (b.toNat : Int)) = l := by
    intro l hl
    induction l with
    | nil => rfl
    | cons x l ih =>
      have hx := hl x (by simp)
      simp only [Lib.bytesOf, List.map_cons] at ih ⊢
      rw [ih (fun y hy => hl y (by simp [hy]))]
      congr 1
      have : x.toNat < 256 := by omega
      simp [Nat.mod_eq_of_lt this]
      omega
  rw [← key zs hz, ← key ys hy, h1]
theorem same_any (w : World) (a b : Option Addr) (n c m d : Nat) (zs ys : List Int) (hx : BIn w (.slice a n c) zs) (hy : BIn w (.slice b m d) ys) (rz : ∀ x ∈ zs, 0 ≤ x ∧ x < 256) (ry : ∀ x ∈ ys, 0 ≤ x ∧ x < 256) :
    Calls Try.prog 29 #[.slice a n c, .slice b m d] w fun e w' => e = .returned (.bool (decide (zs = ys))) ∧ w = w' := by
  have h1 := conv_any w a n c zs hx
  have h2 := conv_any w b m d ys hy
  have hq : ((st zs).toList == (st ys).toList) = decide (zs = ys) := by
    by_cases h : zs = ys
    · subst h; simp
    · have hne : ¬ (st zs).toList = (st ys).toList := fun e => h (st_inj rz ry e)
      simp [h, hne]
  have HQ := hide hq
  clear hq
  generalize st zs = s at h1 HQ
  generalize st ys = t at h2 HQ
  clear hx hy
  go_enter Try.func29, Try.ntmps29
  go_wp2
  go_ret
  exact ⟨by rw [← HQ.out]; rfl, rfl⟩
end WirU
end Go.Proofs.Ythcemghamdmjmaa

namespace Go.Proofs.Ythcemghamdmjmaa
namespace WirV
open Go.RowKit
open BlkM WirM WirS WirA WirB WirC WirD WirE WirF WirG WirH WirI WirJ WirK WirL WirN WirO WirP WirQ WirR WirT WirU

def wl : List Int := [0, 1, 255, 2, 1, 0, 1, 2, 97, 98, 0, 0, 0, 0, 0, 0, 0, 1, 1]
theorem written_any (w : World) : Calls Try.prog 98 #[] w fun e w' => ∃ F, e = .returned (.slice (some ⟨F, 0, none⟩) 19 19) ∧ w.heap.size ≤ F ∧ BIn w' (.slice (some ⟨F, 0, none⟩) 19 19) wl ∧ Below w.heap.size w w' := by
  have hx := BIn.new w 5 wl 19 19 (0, 0) (by decide) (Nat.le_refl _)
  have HX := hide hx
  clear hx
  go_enter Try.func98, Try.ntmps98
  go_wp2
  go_ret
  exact ⟨_, rfl, Nat.le_refl _, HX.out, Below.alloc (Below.refl _ _) (Nat.le_refl _) _⟩
theorem wr0 (w0 w : World) (W : Nat) (v : Value) (h : LW w0 w W 100 v [] 0) : Calls Try.prog 45 #[.pointer (some ⟨W, 0, none⟩), .int .i64 0] w (LWp w0 W 100 [0] 0) := by
  have C := lw_of h (num_any w W 100 v [] 0 0 (by omega) (by omega) h.st)
  rw [show putE 100 0 [] (numB 0).length = 0 by kernel_rfl, show putZ 100 0 [] (numB 0) = [0] by kernel_rfl] at C
  exact C
theorem wr1 (w0 w : World) (W : Nat) (v : Value) (h : LW w0 w W 100 v [0] 0) : Calls Try.prog 45 #[.pointer (some ⟨W, 0, none⟩), .int .i64 255] w (LWp w0 W 100 [0, 1, 255] 0) := by
  have C := lw_of h (num_any w W 100 v [0] 0 255 (by omega) (by omega) h.st)
  rw [show putE 100 0 [0] (numB 255).length = 0 by kernel_rfl, show putZ 100 0 [0] (numB 255) = [0, 1, 255] by kernel_rfl] at C
  exact C
theorem wr2 (w0 w : World) (W : Nat) (v : Value) (h : LW w0 w W 100 v [0, 1, 255] 0) : Calls Try.prog 45 #[.pointer (some ⟨W, 0, none⟩), .int .i64 256] w (LWp w0 W 100 [0, 1, 255, 2, 1, 0] 0) := by
  have C := lw_of h (num_any w W 100 v [0, 1, 255] 0 256 (by omega) (by omega) h.st)
  rw [show putE 100 0 [0, 1, 255] (numB 256).length = 0 by kernel_rfl, show putZ 100 0 [0, 1, 255] (numB 256) = [0, 1, 255, 2, 1, 0] by kernel_rfl] at C
  exact C
theorem wr3 (w0 w : World) (W : Nat) (v : Value) (h : LW w0 w W 100 v [0, 1, 255, 2, 1, 0] 0) : Calls Try.prog 95 #[.pointer (some ⟨W, 0, none⟩), .string ⟨#[97, 98]⟩] w (LWp w0 W 100 [0, 1, 255, 2, 1, 0, 1, 2, 97, 98] 0) := by
  have C := lw_of h (text_any w W 100 v [0, 1, 255, 2, 1, 0] 0 ⟨#[97, 98]⟩ (by decide) h.st)
  rw [show putE 100 0 [0, 1, 255, 2, 1, 0] (numB ((⟨#[97, 98]⟩ : ByteArray).size : Int) ++ tb ⟨#[97, 98]⟩).length = 0 by kernel_rfl, show putZ 100 0 [0, 1, 255, 2, 1, 0] (numB ((⟨#[97, 98]⟩ : ByteArray).size : Int) ++ tb ⟨#[97, 98]⟩) = [0, 1, 255, 2, 1, 0, 1, 2, 97, 98] by kernel_rfl] at C
  exact C
theorem wr4 (w0 w : World) (W : Nat) (v : Value) (h : LW w0 w W 100 v [0, 1, 255, 2, 1, 0, 1, 2, 97, 98] 0) : Calls Try.prog 96 #[.pointer (some ⟨W, 0, none⟩), .int .u64 1] w (LWp w0 W 100 [0, 1, 255, 2, 1, 0, 1, 2, 97, 98, 0, 0, 0, 0, 0, 0, 0, 1] 0) := by
  have C := lw_of h (word_any w W 100 v [0, 1, 255, 2, 1, 0, 1, 2, 97, 98] 0 1 (by omega) (by omega) h.st)
  rw [show putE 100 0 [0, 1, 255, 2, 1, 0, 1, 2, 97, 98] (wordB 1).length = 0 by kernel_rfl, show putZ 100 0 [0, 1, 255, 2, 1, 0, 1, 2, 97, 98] (wordB 1) = [0, 1, 255, 2, 1, 0, 1, 2, 97, 98, 0, 0, 0, 0, 0, 0, 0, 1] by kernel_rfl] at C
  exact C
theorem wr5 (w0 w : World) (W : Nat) (v : Value) (h : LW w0 w W 100 v [0, 1, 255, 2, 1, 0, 1, 2, 97, 98, 0, 0, 0, 0, 0, 0, 0, 1] 0) : Calls Try.prog 97 #[.pointer (some ⟨W, 0, none⟩), .bool true] w (LWp w0 W 100 [0, 1, 255, 2, 1, 0, 1, 2, 97, 98, 0, 0, 0, 0, 0, 0, 0, 1, 1] 0) := by
  have C := lw_of h (bool_any w W 100 v [0, 1, 255, 2, 1, 0, 1, 2, 97, 98, 0, 0, 0, 0, 0, 0, 0, 1] 0 true h.st)
  rw [show putE 100 0 [0, 1, 255, 2, 1, 0, 1, 2, 97, 98, 0, 0, 0, 0, 0, 0, 0, 1] (boolB true).length = 0 by kernel_rfl, show putZ 100 0 [0, 1, 255, 2, 1, 0, 1, 2, 97, 98, 0, 0, 0, 0, 0, 0, 0, 1] (boolB true) = [0, 1, 255, 2, 1, 0, 1, 2, 97, 98, 0, 0, 0, 0, 0, 0, 0, 1, 1] by kernel_rfl] at C
  exact C
theorem rd0 (w0 w : World) (R : Nat) (a : Option Addr) (c : Nat) (h : LR w0 w R a c wl 0 0 0) : Calls Try.prog 37 #[.pointer (some ⟨R, 0, none⟩)] w (LRp w0 R a c wl (.int .i64 0) 1) :=
  lr_of h (show numO wl 0 = .inr (0, 1) by kernel_rfl) (num_read w R a c wl 0 h.st)
theorem rd1 (w0 w : World) (R : Nat) (a : Option Addr) (c : Nat) (h : LR w0 w R a c wl 1 0 0) : Calls Try.prog 37 #[.pointer (some ⟨R, 0, none⟩)] w (LRp w0 R a c wl (.int .i64 255) 3) :=
  lr_of h (show numO wl 1 = .inr (255, 3) by kernel_rfl) (num_read w R a c wl 1 h.st)
theorem rd2 (w0 w : World) (R : Nat) (a : Option Addr) (c : Nat) (h : LR w0 w R a c wl 3 0 0) : Calls Try.prog 37 #[.pointer (some ⟨R, 0, none⟩)] w (LRp w0 R a c wl (.int .i64 256) 6) :=
  lr_of h (show numO wl 3 = .inr (256, 6) by kernel_rfl) (num_read w R a c wl 3 h.st)
theorem rd3 (w0 w : World) (R : Nat) (a : Option Addr) (c : Nat) (h : LR w0 w R a c wl 6 0 0) : Calls Try.prog 38 #[.pointer (some ⟨R, 0, none⟩), .int .i64 2] w (LRp w0 R a c wl (.string ⟨#[97, 98]⟩) 10) := by
  have C := lr_of (f := fun zs => Value.string (st zs)) h (show sizedO wl 6 2 = .inr ([97, 98], 10) by kernel_rfl) (text_read w R a c wl 6 2 h.st)
  rw [show st [97, 98] = ⟨#[97, 98]⟩ by kernel_rfl] at C
  exact C
theorem rd4 (w0 w : World) (R : Nat) (a : Option Addr) (c : Nat) (h : LR w0 w R a c wl 10 0 0) : Calls Try.prog 42 #[.pointer (some ⟨R, 0, none⟩)] w (LRp w0 R a c wl (.int .u64 1) 18) :=
  lr_of h (show wordO wl 10 = .inr (1, 18) by kernel_rfl) (word_read w R a c wl 10 h.st)
theorem rd5 (w0 w : World) (R : Nat) (a : Option Addr) (c : Nat) (h : LR w0 w R a c wl 18 0 0) : Calls Try.prog 44 #[.pointer (some ⟨R, 0, none⟩)] w (LRp w0 R a c wl (.bool true) 19) :=
  lr_of h (show boolO wl 18 = .inr (true, 19) by kernel_rfl) (bool_read w R a c wl 18 h.st)
theorem rdR (w0 w : World) (R : Nat) (a : Option Addr) (c : Nat) (h : LR w0 w R a c wl 19 0 0) : Calls Try.prog 33 #[.pointer (some ⟨R, 0, none⟩)] w (LRp w0 R a c wl (.int .i64 0) 19) :=
  (rest_any w R a c wl 19 0 0 h.st).mono fun e w' ⟨h1, q, h2⟩ => ⟨by rw [h1]; rfl, by rw [h2]; exact h.more (below_drewN (Below.refl _ _) q)⟩
theorem rdE (w0 w : World) (R : Nat) (a : Option Addr) (c : Nat) (h : LR w0 w R a c wl 19 0 0) : Calls Try.prog 35 #[.pointer (some ⟨R, 0, none⟩)] w (LRp w0 R a c wl (.agg #[.int .i64 0, .int .i64 0]) 19) :=
  (end_any w R a c wl 19 0 0 h.st).mono fun e w' ⟨h1, h2⟩ => ⟨by rw [h1]; rfl, h.more h2⟩
theorem wl_rng : ∀ x ∈ wl, 0 ≤ x ∧ x < 256 := by decide
set_option maxRecDepth 10000 in
set_option maxHeartbeats 4000000 in
theorem awake_any (w : World) : Calls Try.prog 19 #[] w fun e w' => e = .returned (.bool true) ∧ Below w.heap.size w w' := by
  go_enter Try.func19, Try.ntmps19
  go_wp2_with ((go_at_call 20; refine (new_any _ 100 (by omega) (by omega)).mono ?_; rintro e w1 ⟨W, rfl, hW, hs, hb⟩))
  have HW := hide (show LW w w1 W 100 (.slice none 0 0) [] 0 from ⟨hs, hW, newB_nil _ _ _, hb⟩)
  clear hs hb hW
  go_upto_region 4 with (first | ((go_at_call 45; ((with_reducible refine (wr0 w _ W _ HW.out).mono ?_); rintro e w1 ⟨rfl, v1, h1⟩; clear HW; have HW := hide h1; clear h1))) | ((go_at_call 45; ((with_reducible refine (wr1 w _ W _ HW.out).mono ?_); rintro e w1 ⟨rfl, v1, h1⟩; clear HW; have HW := hide h1; clear h1))) | ((go_at_call 45; ((with_reducible refine (wr2 w _ W _ HW.out).mono ?_); rintro e w1 ⟨rfl, v1, h1⟩; clear HW; have HW := hide h1; clear h1))) | ((go_at_call 95; ((with_reducible refine (wr3 w _ W _ HW.out).mono ?_); rintro e w1 ⟨rfl, v1, h1⟩; clear HW; have HW := hide h1; clear h1))) | ((go_at_call 96; ((with_reducible refine (wr4 w _ W _ HW.out).mono ?_); rintro e w1 ⟨rfl, v1, h1⟩; clear HW; have HW := hide h1; clear h1))) | ((go_at_call 97; ((with_reducible refine (wr5 w _ W _ HW.out).mono ?_); rintro e w1 ⟨rfl, v1, h1⟩; clear HW; have HW := hide h1; clear h1))))
  have HB := hide HW.out.low
  go_upto_region 5 with ((go_at_call 27; refine (done_ok _ W 100 _ _ HW.out.st).mono ?_; rintro e w2 ⟨da, dn, dc, rfl, ho, hn, hb⟩; have HD := hide ho.bin; have HB2 := hide (HB.out.trans (hb.mono HB.out.size)); clear ho hn hb HB))
  clear HW
  go_upto_region 6 with (first | ((go_at_call 98; refine (written_any _).mono ?_; rintro e w3 ⟨F, rfl, hF, hx, hb⟩; have HX := hide hx; have HD2 := hide (HD.out.below hb); have HB3 := hide (HB2.out.trans (hb.mono HB2.out.size)); clear hx hb hF HD HB2)) | ((go_at_call 30; refine (newReader_any _ _ _ _ wl HX.out wl_rng (by omega)).mono ?_; rintro e w4 ⟨R, ra, rc, rfl, hR, hs, hn, hb⟩; have HR := hide (show LR w w4 R ra rc wl 0 0 0 from ⟨hs, Nat.le_trans HB3.out.size hR, HB3.out.trans (hb.mono HB3.out.size)⟩); have HD := hide (HD2.out.below hb); clear hR hs hn hb HD2 HB3 HX)))
  have HR0 := HR
  clear HR
  have HR := hide HR0.out
  go_wp2_with (first | ((go_at_call 98; refine (written_any _).mono ?_; rintro e w5 ⟨F2, rfl, hF, hx, hb⟩; have HX := hide hx; have HD2 := hide (HD.out.below hb); have HR2 := hide (HR.out.more hb); clear hx hb hF HD HR; have HR := hide HR2.out; clear HR2)) | ((go_at_call 29; refine (same_any _ _ _ _ _ _ _ wl wl HD2.out HX.out wl_rng wl_rng).mono ?_; rintro e w6 ⟨rfl, rfl⟩)) | ((go_at_call 37; ((with_reducible refine (rd0 w _ R ra rc HR.out).mono ?_); rintro e w1 ⟨rfl, h1⟩; clear HR; have HR := hide h1; clear h1))) | ((go_at_call 37; ((with_reducible refine (rd1 w _ R ra rc HR.out).mono ?_); rintro e w1 ⟨rfl, h1⟩; clear HR; have HR := hide h1; clear h1))) | ((go_at_call 37; ((with_reducible refine (rd2 w _ R ra rc HR.out).mono ?_); rintro e w1 ⟨rfl, h1⟩; clear HR; have HR := hide h1; clear h1))) | ((go_at_call 38; ((with_reducible refine (rd3 w _ R ra rc HR.out).mono ?_); rintro e w1 ⟨rfl, h1⟩; clear HR; have HR := hide h1; clear h1))) | ((go_at_call 42; ((with_reducible refine (rd4 w _ R ra rc HR.out).mono ?_); rintro e w1 ⟨rfl, h1⟩; clear HR; have HR := hide h1; clear h1))) | ((go_at_call 44; ((with_reducible refine (rd5 w _ R ra rc HR.out).mono ?_); rintro e w1 ⟨rfl, h1⟩; clear HR; have HR := hide h1; clear h1))) | ((go_at_call 33; ((with_reducible refine (rdR w _ R ra rc HR.out).mono ?_); rintro e w1 ⟨rfl, h1⟩; clear HR; have HR := hide h1; clear h1))) | ((go_at_call 35; ((with_reducible refine (rdE w _ R ra rc HR.out).mono ?_); rintro e w1 ⟨rfl, h1⟩; clear HR; have HR := hide h1; clear h1))))
  go_ret
  exact ⟨rfl, HR.out.low⟩
end WirV
end Go.Proofs.Ythcemghamdmjmaa

namespace Go.Proofs.Ythcemghamdmjmaa
namespace WirW
open Go.RowKit FltC PaceA
open BlkM WirM WirS WirA WirB WirC WirD WirE WirF WirG WirH WirI WirJ WirK WirL WirN WirO WirP WirQ WirR WirT WirU WirV

/-! ### Paces -/
theorem wpace_any (w : World) (W : Nat) (lim : Int) (v : Value) (zs : List Int) (err : Int) (x : Nat) (hx : x < 18446744073709551616) (h : WSt w W lim v zs err) :
    Calls Try.prog 102 #[.pointer (some ⟨W, 0, none⟩), .float .f64 x] w (Wrote w W lim v (putZ lim err zs (wordB (canon x : Int))) (putE lim err zs (wordB (canon x : Int)).length)) := by
  have hc := canon_lt hx
  have H := WirS.hide (word_any w W lim v zs err (canon x : Int) (by omega) (by omega) h)
  have C := WirS.hide (fun W => bits_any x W)
  generalize putE lim err zs (wordB (canon x : Int)).length = E at H ⊢
  generalize putZ lim err zs (wordB (canon x : Int)) = Z at H ⊢
  clear h
  go_enter Try.func102, Try.ntmps102
  go_wp2_with (first | ((go_at_call 191; refine (C.out _).mono ?_; rintro e w1 ⟨rfl, rfl⟩)) | ((go_at_call 96; refine (H.out).mono ?_; rintro e w1 ⟨rfl, hs⟩; have HS := WirS.hide hs; clear hs)))
  go_ret
  exact ⟨rfl, HS.out⟩
def paceO (bs : List Int) (at' : Nat) : Sum Int (Nat × Nat) :=
  if bs.length < at' + 8 then .inl 6 else
  if canon (vL ((bs.drop at').take 8)).toNat = (vL ((bs.drop at').take 8)).toNat then .inr ((vL ((bs.drop at').take 8)).toNat, at' + 8) else .inl 5
theorem paceOf_ok (w : World) (a : Option Addr) (n c : Nat) (zs : List Int) (h : BIn w (.slice a n c) zs) (hr : ∀ x ∈ zs, 0 ≤ x ∧ x < 256) (h8 : zs.length ≤ 8) (hc : canon (vL zs).toNat = (vL zs).toNat) :
    Calls Try.prog 149 #[.slice a n c] w fun e w' => e = .returned (.float .f64 (vL zs).toNat) ∧ w = w' := by
  have hv := (vL_lt zs hr).1
  have H := WirS.hide (WirG.word_any w a n c zs h hr h8)
  obtain ⟨k, hk⟩ := Int.eq_ofNat_of_zero_le hv
  rw [hk] at H hc ⊢
  rw [Int.toNat_natCast] at hc ⊢
  have C := WirS.hide (fun W => pof_ok k W hc)
  clear h hv hk hc
  go_enter Try.func149, Try.ntmps149
  go_wp2_with (first | ((go_at_call 145; refine (H.out).mono ?_; rintro e w1 ⟨rfl, rfl⟩)) | ((go_at_call 212; refine (C.out _).mono ?_; rintro e w1 ⟨rfl, rfl⟩)))
  go_ret
  exact ⟨rfl, rfl⟩
theorem paceOf_no (w : World) (a : Option Addr) (n c : Nat) (zs : List Int) (h : BIn w (.slice a n c) zs) (hr : ∀ x ∈ zs, 0 ≤ x ∧ x < 256) (h8 : zs.length ≤ 8) (hc : canon (vL zs).toNat ≠ (vL zs).toNat) :
    Calls Try.prog 149 #[.slice a n c] w fun e w' => e = .panicked (hp 5) ∧ w = w' := by
  have hv := (vL_lt zs hr).1
  have H := WirS.hide (WirG.word_any w a n c zs h hr h8)
  obtain ⟨k, hk⟩ := Int.eq_ofNat_of_zero_le hv
  rw [hk] at H hc
  rw [Int.toNat_natCast] at hc
  have C := WirS.hide (fun W => pof_no k W hc)
  clear h hv hk hc
  go_enter Try.func149, Try.ntmps149
  go_wp2_with (first | ((go_at_call 145; refine (H.out).mono ?_; rintro e w1 ⟨rfl, rfl⟩)) | ((go_at_call 212; refine (C.out _).mono ?_; rintro e w1 ⟨rfl, rfl⟩)))
  exact ⟨rfl, rfl, rfl⟩
theorem paceC (w : World) (R : Nat) (a : Option Addr) (c : Nat) (bs : List Int) (at' b : Nat) (h : RSt w R a c bs at' 0 0) (hb : w.cell? ⟨b, 0, none⟩ = some (.pointer (some ⟨R, 0, none⟩))) :
    Calls Try.prog 147 #[.pointer (some ⟨b, 0, none⟩)] w (ElemPost w R a c bs (outOf (Value.float .f64) (paceO bs at'))) := by
  by_cases h1 : bs.length < at' + 8
  · have H := WirS.hide (show Calls _ _ #[_, .int .i64 8, _] _ _ from take_short_pace w R a c bs at' 8 (.func (.func 149) #[] #[]) h (by omega) h1)
    rw [show paceO bs at' = .inl 6 by unfold paceO; rw [if_pos h1]]
    clear h h1
    go_enter Try.func147, Try.ntmps147
    go_wp2_with ((go_at_call 148; refine (H.out).mono ?_; rintro e w1 ⟨rfl, h2⟩))
    exact ⟨rfl, rfl, h2⟩
  · by_cases h2 : canon (vL ((bs.drop at').take 8)).toNat = (vL ((bs.drop at').take 8)).toNat
    · have H := WirS.hide (show Calls _ _ #[_, .int .i64 8, _] _ (Got w R a c bs (.float .f64 (vL ((bs.drop at').take 8)).toNat) (at' + 8)) from take_pace w R a c bs at' 8 h (by omega) _ (fun _ h => by cases h.1) fun W hR hF =>
        (paceOf_ok W (sa a c at') 8 (c - at') _ (bin_sub hR.bin at' 8 (by omega)) (sub_rng hR.bytes at' 8) (by simp; omega) h2).mono fun e w' ⟨h1, h2⟩ => by subst h2; exact ⟨h1, hR, hF⟩)
      rw [show paceO bs at' = .inr ((vL ((bs.drop at').take 8)).toNat, at' + 8) by unfold paceO; rw [if_neg h1, if_pos h2]]
      generalize (vL ((bs.drop at').take 8)).toNat = y at H ⊢
      clear h h1 h2
      go_enter Try.func147, Try.ntmps147
      go_wp2_with ((go_at_call 148; refine (H.out).mono ?_; rintro e w1 ⟨rfl, h3, h4⟩; have HR := WirS.hide h3; clear h3))
      go_ret
      exact ⟨_, rfl, rfl, HR.out, h4⟩
    · have H := WirS.hide (show Calls _ _ #[_, .int .i64 8, _] _ (Bad w R a c bs 5) from take_pace w R a c bs at' 8 h (by omega) _ (fun _ h => by cases h.1) fun W hR hF =>
        (paceOf_no W (sa a c at') 8 (c - at') _ (bin_sub hR.bin at' 8 (by omega)) (sub_rng hR.bytes at' 8) (by simp; omega) h2).mono fun e w' ⟨h1, h2⟩ => by subst h2; exact ⟨h1, ⟨_, hR⟩, hF⟩)
      rw [show paceO bs at' = .inl 5 by unfold paceO; rw [if_neg h1, if_neg h2]]
      clear h h1 h2
      go_enter Try.func147, Try.ntmps147
      go_wp2_with ((go_at_call 148; refine (H.out).mono ?_; rintro e w1 ⟨rfl, h2⟩))
      exact ⟨rfl, rfl, h2⟩
theorem pace_none (w : World) (p : Option Addr) (h : NoR w p) (hp : ∀ S, p = some ⟨S, 0, none⟩ → S < w.heap.size) : Calls Try.prog 43 #[.pointer p] w fun e w' => e = .returned (.float .f64 0) ∧ Below w.heap.size w w' := by
  have H := WirS.hide (fun fv => read_none_pace (w.alloc (.cells #[.pointer p] 48)) p fv (by
    rcases h with rfl | ⟨S, rfl, hc⟩
    · exact .inl rfl
    · exact .inr ⟨S, rfl, ((Below.alloc (Below.refl w.heap.size w) (Nat.le_refl _) _).cell (hp S rfl)).trans hc⟩) (fun S hS => by have := hp S hS; simp; omega))
  have hmf : ∀ (fn : Fn) (first cap : Array Value) (w : World), (Instr.makeFunc fn first cap).run Try.prog w = .ok (.func fn first cap) w := fun _ _ _ _ => rfl
  clear h hp
  go_enter Try.func43, Try.ntmps43
  go_wp2_with ((go_at_call 146; refine (H.out _).mono ?_; rintro e w1 ⟨rfl, h2⟩; have HB := WirS.hide h2; clear h2))
  go_ret
  exact ⟨rfl, Below.box HB.out⟩
theorem pace_fault (w : World) (R : Nat) (a : Option Addr) (c : Nat) (bs : List Int) (at' : Nat) (fe fa : Int) (h : RSt w R a c bs at' fe fa) (he : fe ≠ 0) : Calls Try.prog 43 #[.pointer (some ⟨R, 0, none⟩)] w fun e w' => e = .returned (.float .f64 0) ∧ Below w.heap.size w w' := by
  have H := WirS.hide (fun fv => read_fault_pace (w.alloc (.cells #[.pointer (some ⟨R, 0, none⟩)] 48)) R a c bs at' fe fa fv (h.below (Below.alloc (Below.refl _ _) (Nat.le_refl _) _)) he)
  have hmf : ∀ (fn : Fn) (first cap : Array Value) (w : World), (Instr.makeFunc fn first cap).run Try.prog w = .ok (.func fn first cap) w := fun _ _ _ _ => rfl
  clear h he
  go_enter Try.func43, Try.ntmps43
  go_wp2_with ((go_at_call 146; refine (H.out _).mono ?_; rintro e w1 ⟨rfl, h2⟩; have HB := WirS.hide h2; clear h2))
  go_ret
  exact ⟨rfl, Below.box HB.out⟩
theorem pace_read (w : World) (R : Nat) (a : Option Addr) (c : Nat) (bs : List Int) (at' : Nat) (h : RSt w R a c bs at' 0 0) : Calls Try.prog 43 #[.pointer (some ⟨R, 0, none⟩)] w (ReadPost w R a c bs at' (.float .f64 0) (outOf (Value.float .f64) (paceO bs at'))) := by
  have H := WirS.hide (read_pace (w.alloc (.cells #[.pointer (some ⟨R, 0, none⟩)] 48)) R a c bs at' (.pointer (some ⟨w.heap.size, 0, none⟩)) (outOf (Value.float .f64) (paceO bs at')) (h.below (Below.alloc (Below.refl _ _) (Nat.le_refl _) _))
    (fun W hb hR => paceC W R a c bs at' w.heap.size hR (((At.new w 48 [.pointer (some ⟨R, 0, none⟩)]).below hb (by simp)).cell 0)))
  have hmf : ∀ (fn : Fn) (first cap : Array Value) (w : World), (Instr.makeFunc fn first cap).run Try.prog w = .ok (.func fn first cap) w := fun _ _ _ _ => rfl
  have HB := WirS.hide (show Below w.heap.size w (w.alloc (.cells #[.pointer (some ⟨R, 0, none⟩)] 48)) from Below.alloc (Below.refl _ _) (Nat.le_refl _) _)
  generalize hO : outOf (Value.float .f64) (paceO bs at') = O at H ⊢
  clear h
  cases O with
  | inl code =>
    clear hO
    go_enter Try.func43, Try.ntmps43
    go_wp2_with ((go_at_call 146; refine (H.out).mono ?_; rintro e w1 ⟨rfl, h2⟩; have HH := WirS.hide h2; clear h2))
    go_ret
    exact ReadPost.pre HB.out ⟨rfl, HH.out⟩
  | inr x =>
    clear hO
    go_enter Try.func43, Try.ntmps43
    go_wp2_with ((go_at_call 146; refine (H.out).mono ?_; rintro e w1 ⟨v, rfl, h2⟩; have HH := WirS.hide h2; clear h2))
    first | exact ReadPost.pre HB.out ⟨_, rfl, HH.out⟩ | (go_ret; exact ReadPost.pre HB.out ⟨_, rfl, HH.out⟩)
end WirW
end Go.Proofs.Ythcemghamdmjmaa

namespace Go.Proofs.Ythcemghamdmjmaa
namespace WirX
open Go.RowKit
open BlkM WirM WirS WirA WirB WirC WirD WirE WirF WirG WirH WirI WirJ WirK WirL WirN WirO WirP WirQ WirR WirT WirU WirV WirW

/-- An object: what is known of it in a world, the blocks that it lies in. -/
structure Thg where
  ok : World → Prop
  foot : Nat → Prop
  stable : ∀ {X : Nat → Prop} {w w' : World}, ok w → Fr X w w' → (∀ k, foot k → ¬ X k) → ok w'
  inside : ∀ {w : World}, ok w → ∀ k, foot k → k < w.heap.size
/-- Objects that were made behind w0, each apart from the others. -/
structure Bag (w0 w : World) (l : List Thg) : Prop where
  low : Below w0.heap.size w0 w
  all : ∀ o ∈ l, o.ok w ∧ ∀ k, o.foot k → w0.heap.size ≤ k
  apart : l.Pairwise fun o o' => ∀ k, o.foot k → ¬ o'.foot k
theorem Bag.nil {w0 w : World} (h : Below w0.heap.size w0 w) : Bag w0 w [] := ⟨h, (fun _ h => by cases h), List.Pairwise.nil⟩
theorem Bag.head {w0 w : World} {o : Thg} {l : List Thg} (h : Bag w0 w (o :: l)) : o.ok w := (h.all o (by simp)).1
theorem Bag.drop {w0 w : World} {o : Thg} {l : List Thg} (h : Bag w0 w (o :: l)) : Bag w0 w l := ⟨h.low, fun o' h' => h.all o' (by simp [h']), (List.pairwise_cons.1 h.apart).2⟩
theorem Bag.more {w0 w w' : World} {l : List Thg} (h : Bag w0 w l) (hb : Below w.heap.size w w') : Bag w0 w' l :=
  ⟨h.low.trans (hb.mono h.low.size), fun o ho => ⟨o.stable (X := fun _ => False) (h.all o ho).1 (Fr.of_below hb) (fun _ _ h => h), (h.all o ho).2⟩, h.apart⟩
/-- The first object acts: its own blocks may change, and new ones come. -/
theorem Bag.act {w0 w w' : World} {o o' : Thg} {l : List Thg} (h : Bag w0 w (o :: l)) (hf : Fr o.foot w w') (ho : o'.ok w') (hn : ∀ k, o'.foot k → o.foot k ∨ w.heap.size ≤ k) : Bag w0 w' (o' :: l) := by
  have hp := List.pairwise_cons.1 h.apart
  refine ⟨h.low.trans (hf.below h.low.size (fun k hk hx => by have := (h.all o (by simp)).2 k hx; omega)), fun x hx => ?_, List.pairwise_cons.2 ⟨fun x hx k hk hx' => ?_, hp.2⟩⟩
  · rcases List.mem_cons.1 hx with rfl | hx
    · refine ⟨ho, fun k hk => ?_⟩
      rcases hn k hk with h1 | h1
      · exact (h.all o (by simp)).2 k h1
      · exact Nat.le_trans h.low.size h1
    · have := h.all x (by simp [hx])
      exact ⟨x.stable this.1 hf (fun k hk hx' => hp.1 x hx k hx' hk), this.2⟩
  · rcases hn k hk with h1 | h1
    · exact hp.1 x hx k h1 hx'
    · have := x.inside (h.all x (by simp [hx])).1 k hx'
      omega
/-- A new object. -/
theorem Bag.new {w0 w w' : World} {o : Thg} {l : List Thg} (h : Bag w0 w l) (hb : Below w.heap.size w w') (ho : o.ok w') (hn : ∀ k, o.foot k → w.heap.size ≤ k) : Bag w0 w' (o :: l) := by
  have hm := h.more hb
  refine ⟨hm.low, fun x hx => ?_, List.pairwise_cons.2 ⟨fun x hx k hk hx' => ?_, h.apart⟩⟩
  · rcases List.mem_cons.1 hx with rfl | hx
    · exact ⟨ho, fun k hk => Nat.le_trans h.low.size (hn k hk)⟩
    · exact hm.all x hx
  · have := x.inside (h.all x hx).1 k hx'
    have := hn k hk
    omega
theorem Bag.perm {w0 w : World} {l l' : List Thg} (h : Bag w0 w l) (hp : l.Perm l') : Bag w0 w l' :=
  ⟨h.low, fun o ho => h.all o (hp.mem_iff.2 ho), (hp.pairwise_iff (fun hab k hk hk' => hab k hk' hk)).1 h.apart⟩
theorem Bag.swap {w0 w : World} {o o' : Thg} {l : List Thg} (h : Bag w0 w (o :: o' :: l)) : Bag w0 w (o' :: o :: l) := h.perm (.swap _ _ _)
/-- The first one goes to the end. -/
theorem Bag.last {w0 w : World} {o : Thg} {l : List Thg} (h : Bag w0 w (o :: l)) : Bag w0 w (l ++ [o]) := h.perm (List.perm_append_singleton o l).symm
/-- A reader. -/
def rdr (R : Nat) (a : Option Addr) (c : Nat) (bs : List Int) (at' : Nat) (fe fa : Int) : Thg where
  ok w := RSt w R a c bs at' fe fa
  foot k := k = R ∨ (Value.slice a bs.length c).ownBlock = some k
  stable h hf hX := h.fr hf (hX R (.inl rfl)) (fun k hk => hX k (.inr hk))
  inside h k hk := by
    rcases hk with rfl | hk
    · exact h.lt
    · exact h.olt k hk
/-- A writer. -/
def wtr (W : Nat) (lim : Int) (v : Value) (zs : List Int) (err : Int) : Thg where
  ok w := WSt w W lim v zs err
  foot k := Xw W v k
  stable h hf hX := h.fr hf hX
  inside h k hk := by
    rcases hk with rfl | hk
    · exact h.lt
    · exact h.own.lt k hk
/-- A slice of memory of its own. -/
def own (v : Value) (zs : List Int) : Thg where
  ok w := Own w 5 v zs
  foot k := v.ownBlock = some k
  stable h hf hX := h.fr hf hX
  inside h k hk := h.lt k hk
theorem bag_rdr {w0 w w' : World} {l : List Thg} {R : Nat} {a : Option Addr} {c : Nat} {bs : List Int} (h : Bag w0 w l) (hR : w.heap.size ≤ R) (hs : RSt w' R a c bs 0 0 0) (hn : NewB w (.slice a bs.length c)) (hb : Below w.heap.size w w') : Bag w0 w' (rdr R a c bs 0 0 0 :: l) :=
  h.new hb hs (fun k hk => by
    rcases hk with rfl | hk
    · exact hR
    · exact hn k hk)
theorem bag_wtr {w0 w w' : World} {l : List Thg} {W : Nat} {lim : Int} {v : Value} {zs : List Int} {err : Int} (h : Bag w0 w l) (hW : w.heap.size ≤ W) (hs : WSt w' W lim v zs err) (hn : NewB w v) (hb : Below w.heap.size w w') : Bag w0 w' (wtr W lim v zs err :: l) :=
  h.new hb hs (fun k hk => by
    rcases hk with rfl | hk
    · exact hW
    · exact hn k hk)
theorem bag_own {w0 w w' : World} {l : List Thg} {v : Value} {zs : List Int} (h : Bag w0 w l) (hs : Own w' 5 v zs) (hn : NewB w v) (hb : Below w.heap.size w w') : Bag w0 w' (own v zs :: l) := h.new hb hs hn
/-- What a call on the first reader leaves. -/
theorem bag_read {w0 w w' : World} {l : List Thg} {R : Nat} {a : Option Addr} {c : Nat} {bs : List Int} {at' p : Nat} {fe fa fe' fa' : Int} (h : Bag w0 w (rdr R a c bs at' fe fa :: l)) (hs : RSt w' R a c bs p fe' fa') (hf : Fr (Xr R) w w') : Bag w0 w' (rdr R a c bs p fe' fa' :: l) :=
  h.act (hf.mono fun _ _ hx => .inl hx) hs (fun _ hk => .inl hk)
theorem bag_write {w0 w w' : World} {l : List Thg} {W : Nat} {lim : Int} {v v' : Value} {zs zs' : List Int} {err err' : Int} (h : Bag w0 w (wtr W lim v zs err :: l)) (hs : WSt w' W lim v' zs' err') (hf : Step w W v w' v') : Bag w0 w' (wtr W lim v' zs' err' :: l) :=
  h.act hf.1 hs (fun k hk => by
    rcases hk with rfl | hk
    · exact .inl (.inl rfl)
    · rcases hf.2 k hk with h1 | h1
      · exact .inl (.inr h1)
      · exact .inr h1)
/-- A writing call on the first writer. -/
def BW (w0 : World) (l : List Thg) (W : Nat) (lim : Int) (zs' : List Int) (err' : Int) (e : Ending) (w' : World) : Prop := e = .returned (.int .i64 err') ∧ ∃ v', Bag w0 w' (wtr W lim v' zs' err' :: l)
theorem bw_of {w0 w : World} {l : List Thg} {W : Nat} {lim : Int} {v : Value} {zs zs' : List Int} {err err' : Int} {f : FuncId} {args : Array Value} (h : Bag w0 w (wtr W lim v zs err :: l)) (C : Calls Try.prog f args w (Wrote w W lim v zs' err')) : Calls Try.prog f args w (BW w0 l W lim zs' err') :=
  C.mono fun _ _ ⟨h1, v', h2, h3⟩ => ⟨h1, v', bag_write h h2 h3⟩
/-- A reading call on the first reader: a value, or none. -/
def BR (w0 : World) (l : List Thg) (R : Nat) (a : Option Addr) (c : Nat) (bs : List Int) (v : Value) (p : Nat) (fe fa : Int) (e : Ending) (w' : World) : Prop := e = .returned v ∧ Bag w0 w' (rdr R a c bs p fe fa :: l)
theorem br_of {α : Type} {f : α → Value} {w0 w : World} {l : List Thg} {R : Nat} {a : Option Addr} {c : Nat} {bs : List Int} {at' p : Nat} {g : FuncId} {args : Array Value} {zero : Value} {o : Sum Int (α × Nat)} {x : α} (h : Bag w0 w (rdr R a c bs at' 0 0 :: l)) (ho : o = .inr (x, p))
    (C : Calls Try.prog g args w (ReadPost w R a c bs at' zero (outOf f o))) : Calls Try.prog g args w (BR w0 l R a c bs (f x) p 0 0) := by
  subst ho
  exact C.mono fun _ _ ⟨v, h1, h2, h3, h4⟩ => ⟨by rw [h1, h2], bag_read h h3 h4⟩
def BF (w0 : World) (l : List Thg) (R : Nat) (a : Option Addr) (c : Nat) (bs : List Int) (v : Value) (fe fa : Int) (e : Ending) (w' : World) : Prop := e = .returned v ∧ ∃ p, Bag w0 w' (rdr R a c bs p fe fa :: l)
theorem bf_of {α : Type} {f : α → Value} {w0 w : World} {l : List Thg} {R : Nat} {a : Option Addr} {c : Nat} {bs : List Int} {at' : Nat} {g : FuncId} {args : Array Value} {zero : Value} {o : Sum Int (α × Nat)} {code : Int} (h : Bag w0 w (rdr R a c bs at' 0 0 :: l)) (ho : o = .inl code)
    (C : Calls Try.prog g args w (ReadPost w R a c bs at' zero (outOf f o))) : Calls Try.prog g args w (BF w0 l R a c bs zero code at') := by
  subst ho
  exact C.mono fun _ _ ⟨h1, ⟨p, h2⟩, h3⟩ => ⟨h1, p, bag_read h h2 h3⟩
theorem br_rest {w0 w : World} {l : List Thg} {R : Nat} {a : Option Addr} {c : Nat} {bs : List Int} {at' : Nat} {fe fa : Int} (h : Bag w0 w (rdr R a c bs at' fe fa :: l)) : Calls Try.prog 33 #[.pointer (some ⟨R, 0, none⟩)] w (BR w0 l R a c bs (.int .i64 (restN bs at' fe)) at' fe fa) :=
  (rest_any w R a c bs at' fe fa h.head).mono fun _ _ ⟨h1, q, h2⟩ => ⟨h1, by rw [h2]; exact h.more (below_drewN (Below.refl _ _) q)⟩
theorem br_end {w0 w : World} {l : List Thg} {R : Nat} {a : Option Addr} {c : Nat} {bs : List Int} {at' : Nat} {fe fa : Int} (h : Bag w0 w (rdr R a c bs at' fe fa :: l)) : Calls Try.prog 35 #[.pointer (some ⟨R, 0, none⟩)] w (BR w0 l R a c bs (fault (endE bs at' fe) (endA bs at' fe fa)) at' fe fa) :=
  (end_any w R a c bs at' fe fa h.head).mono fun _ _ ⟨h1, h2⟩ => ⟨h1, h.more h2⟩
theorem fault_eq (e a' f b' : Int) (W : World) : (binOp .eql 55 (.agg #[.int .i64 e, .int .i64 a']) (.agg #[.int .i64 f, .int .i64 b'])).run Try.prog W = .ok (.bool (e == f && a' == b')) W := by
  have p0 : ∀ (x y : Int) (V : World), (part 26 #[.int .i64 x, .int .i64 y] 0).run Try.prog V = .ok (.int .i64 x) V := fun x y V => by kernel_rfl
  have p1 : ∀ (x y : Int) (V : World), (part 3 #[.int .i64 x, .int .i64 y] 1).run Try.prog V = .ok (.int .i64 y) V := fun x y V => by kernel_rfl
  have k1 : ∀ d : Nat, (Op.equalIn (d + 2) 55 (.agg #[.int .i64 e, .int .i64 a']) (.agg #[.int .i64 f, .int .i64 b'])).run Try.prog W = .ok (e == f && a' == b') W := fun d => by
    simp [Op.equalIn, run_underlying Try.underlying55, run_underlying Try.underlying26, run_underlying Try.underlying3, p0, p1]
    by_cases h1 : e = f <;> by_cases h2 : a' = b' <;> simp [h1, h2]
  simp only [binOp]
  simp [Op.equal, Op.maxDepth, k1 9998]
/-- ends. -/
theorem ends_any (w0 w : World) (l : List Thg) (R : Nat) (a : Option Addr) (c : Nat) (bs : List Int) (at' : Nat) (fe fa e a' : Int) (h : Bag w0 w (rdr R a c bs at' fe fa :: l)) (h1 : endE bs at' fe = e) (h2 : endA bs at' fe fa = a') :
    Calls Try.prog 46 #[.pointer (some ⟨R, 0, none⟩), .int .i64 e, .int .i64 a'] w (BR w0 l R a c bs (.bool true) at' fe fa) := by
  have H := WirS.hide (br_end h)
  rw [h1, h2] at H
  have hq : ∀ W : World, (binOp .eql 55 (.agg #[.int .i64 e, .int .i64 a']) (.agg #[.int .i64 e, .int .i64 a'])).run Try.prog W = .ok (.bool true) W := fun W => by
    rw [fault_eq]
    simp
  unfold fault at H
  clear h h1 h2
  go_enter Try.func46, Try.ntmps46
  go_wp2_with ((go_at_call 35; refine (H.out).mono ?_; rintro e w1 ⟨rfl, hs⟩; have HS := WirS.hide hs; clear hs))
  go_ret
  exact ⟨rfl, HS.out⟩
end WirX
end Go.Proofs.Ythcemghamdmjmaa

namespace Go.Proofs.Ythcemghamdmjmaa
namespace WirY
open Go.RowKit
open BlkM WirM WirS WirA WirB WirC WirD WirE WirF WirG WirH WirI WirJ WirK WirL WirN WirO WirP WirQ WirR WirT WirU WirV WirW WirX

theorem bin_lit (u : World) (l : List Int) (n : Nat) (hn : n = l.length) : BIn (u.alloc (.cells (b8 l).toArray 5)) (.slice (some ⟨u.heap.size, 0, none⟩) n n) l := by
  subst hn
  have := BIn.new u 5 l l.length l.length (0, 0) (Nat.le_refl _) (Nat.le_refl _)
  rwa [List.take_length] at this
theorem read_lit (w0 u : World) (l : List Thg) (bs : List Int) (n : Nat) (hn : n = bs.length) (h : Bag w0 u l) (hr : ∀ x ∈ bs, 0 ≤ x ∧ x < 256) (hs : n ≤ 1099511627776) :
    Calls Try.prog 30 #[.slice (some ⟨u.heap.size, 0, none⟩) n n] (u.alloc (.cells (b8 bs).toArray 5)) fun e w' => ∃ R a c, e = .returned (.pointer (some ⟨R, 0, none⟩)) ∧ Bag w0 w' (rdr R a c bs 0 0 0 :: l) :=
  (newReader_any _ _ _ _ bs (bin_lit u bs n hn) hr hs).mono fun _ _ ⟨R, a, c, h1, h2, h3, h4, h5⟩ => ⟨R, a, c, h1, bag_rdr (h.more (Below.alloc (Below.refl _ _) (Nat.le_refl _) _)) h2 h3 h4 h5⟩
theorem litA (w0 u : World) (l : List Thg) (h : Bag w0 u l) : Calls Try.prog 30 #[.slice (some ⟨u.heap.size, 0, none⟩) 2 2] (u.alloc (.cells #[.int .u8 1, .int .u8 0] 5)) fun e w' => ∃ R a c, e = .returned (.pointer (some ⟨R, 0, none⟩)) ∧ Bag w0 w' (rdr R a c [1, 0] 0 0 0 :: l) :=
  read_lit w0 u l [1, 0] 2 rfl h (by decide) (by omega)
theorem litB (w0 u : World) (l : List Thg) (h : Bag w0 u l) : Calls Try.prog 30 #[.slice (some ⟨u.heap.size, 0, none⟩) 1 1] (u.alloc (.cells #[.int .u8 9] 5)) fun e w' => ∃ R a c, e = .returned (.pointer (some ⟨R, 0, none⟩)) ∧ Bag w0 w' (rdr R a c [9] 0 0 0 :: l) :=
  read_lit w0 u l [9] 1 rfl h (by decide) (by omega)
theorem litC (w0 u : World) (l : List Thg) (h : Bag w0 u l) : Calls Try.prog 30 #[.slice (some ⟨u.heap.size, 0, none⟩) 2 2] (u.alloc (.cells #[.int .u8 2, .int .u8 1] 5)) fun e w' => ∃ R a c, e = .returned (.pointer (some ⟨R, 0, none⟩)) ∧ Bag w0 w' (rdr R a c [2, 1] 0 0 0 :: l) :=
  read_lit w0 u l [2, 1] 2 rfl h (by decide) (by omega)
theorem litD (w0 u : World) (l : List Thg) (h : Bag w0 u l) : Calls Try.prog 30 #[.slice (some ⟨u.heap.size, 0, none⟩) 3 3] (u.alloc (.cells #[.int .u8 1, .int .u8 5, .int .u8 0] 5)) fun e w' => ∃ R a c, e = .returned (.pointer (some ⟨R, 0, none⟩)) ∧ Bag w0 w' (rdr R a c [1, 5, 0] 0 0 0 :: l) :=
  read_lit w0 u l [1, 5, 0] 3 rfl h (by decide) (by omega)
theorem litG (w0 u : World) (l : List Thg) (h : Bag w0 u l) : Calls Try.prog 30 #[.slice (some ⟨u.heap.size, 0, none⟩) 3 3] (u.alloc (.cells #[.int .u8 1, .int .u8 3, .int .u8 97] 5)) fun e w' => ∃ R a c, e = .returned (.pointer (some ⟨R, 0, none⟩)) ∧ Bag w0 w' (rdr R a c [1, 3, 97] 0 0 0 :: l) :=
  read_lit w0 u l [1, 3, 97] 3 rfl h (by decide) (by omega)
theorem litH (w0 u : World) (l : List Thg) (h : Bag w0 u l) : Calls Try.prog 30 #[.slice (some ⟨u.heap.size, 0, none⟩) 3 3] (u.alloc (.cells #[.int .u8 1, .int .u8 2, .int .u8 2] 5)) fun e w' => ∃ R a c, e = .returned (.pointer (some ⟨R, 0, none⟩)) ∧ Bag w0 w' (rdr R a c [1, 2, 2] 0 0 0 :: l) :=
  read_lit w0 u l [1, 2, 2] 3 rfl h (by decide) (by omega)
theorem litP (w0 u : World) (l : List Thg) (h : Bag w0 u l) : Calls Try.prog 30 #[.slice (some ⟨u.heap.size, 0, none⟩) 8 8] (u.alloc (.cells #[.int .u8 255, .int .u8 255, .int .u8 255, .int .u8 255, .int .u8 255, .int .u8 255, .int .u8 255, .int .u8 255] 5)) fun e w' => ∃ R a c, e = .returned (.pointer (some ⟨R, 0, none⟩)) ∧ Bag w0 w' (rdr R a c [255, 255, 255, 255, 255, 255, 255, 255] 0 0 0 :: l) :=
  read_lit w0 u l [255, 255, 255, 255, 255, 255, 255, 255] 8 rfl h (by decide) (by omega)
theorem kn1 (w0 w : World) (l : List Thg) (W : Nat) (v : Value) (h : Bag w0 w (wtr W 9 v [] 0 :: l)) : Calls Try.prog 45 #[.pointer (some ⟨W, 0, none⟩), .int .i64 (-1)] w (BW w0 l W 9 [] 3) :=
  bw_of h (num_neg w W 9 v [] 0 (-1) (by omega) h.head)
theorem kn2 (w0 w : World) (l : List Thg) (W : Nat) (v : Value) (h : Bag w0 w (wtr W 9 v [] 3 :: l)) : Calls Try.prog 45 #[.pointer (some ⟨W, 0, none⟩), .int .i64 1] w (BW w0 l W 9 [] 3) := by
  have C := bw_of h (num_any w W 9 v [] 3 1 (by omega) (by omega) h.head)
  rw [show putE 9 3 [] (numB 1).length = 3 by kernel_rfl, show putZ 9 3 [] (numB 1) = [] by kernel_rfl] at C
  exact C
theorem kn3 (w0 w : World) (l : List Thg) (W : Nat) (v : Value) (h : Bag w0 w (wtr W 2 v [] 0 :: l)) : Calls Try.prog 45 #[.pointer (some ⟨W, 0, none⟩), .int .i64 256] w (BW w0 l W 2 [] 4) := by
  have C := bw_of h (num_any w W 2 v [] 0 256 (by omega) (by omega) h.head)
  rw [show putE 2 0 [] (numB 256).length = 4 by kernel_rfl, show putZ 2 0 [] (numB 256) = [] by kernel_rfl] at C
  exact C
theorem kn4 (w0 w : World) (l : List Thg) (W : Nat) (v : Value) (h : Bag w0 w (wtr W 2 v [] 4 :: l)) : Calls Try.prog 45 #[.pointer (some ⟨W, 0, none⟩), .int .i64 1] w (BW w0 l W 2 [] 4) := by
  have C := bw_of h (num_any w W 2 v [] 4 1 (by omega) (by omega) h.head)
  rw [show putE 2 4 [] (numB 1).length = 4 by kernel_rfl, show putZ 2 4 [] (numB 1) = [] by kernel_rfl] at C
  exact C
theorem kn5 (w0 w : World) (l : List Thg) (W : Nat) (v : Value) (h : Bag w0 w (wtr W 9 v [] 3 :: l)) : Calls Try.prog 27 #[.pointer (some ⟨W, 0, none⟩)] w fun e w' => e = .returned (.tuple #[.slice none 0 0, .int .i64 3]) ∧ Bag w0 w' l :=
  (done_err w W 9 v [] 3 h.head (by decide)).mono fun _ _ ⟨h1, h2⟩ => by subst h2; exact ⟨h1, h.drop⟩
theorem endF (bs : List Int) (p : Nat) (fe fa : Int) (h : fe ≠ 0) : endE bs p fe = fe ∧ endA bs p fe fa = fa := by
  have : restN bs p fe = 0 := by unfold restN; rw [if_neg h]
  unfold endE endA
  rw [this]
  simp
theorem kA (w0 w : World) (l : List Thg) (R : Nat) (a : Option Addr) (c : Nat) (h : Bag w0 w (rdr R a c [1, 0] 0 0 0 :: l)) : Calls Try.prog 37 #[.pointer (some ⟨R, 0, none⟩)] w (BF w0 l R a c [1, 0] (.int .i64 0) 5 (((0 : Nat)) : Int)) :=
  bf_of h (show numO [1, 0] 0 = .inl 5 by kernel_rfl) (num_read w R a c _ 0 h.head)
theorem kB (w0 w : World) (l : List Thg) (R : Nat) (a : Option Addr) (c : Nat) (h : Bag w0 w (rdr R a c [9] 0 0 0 :: l)) : Calls Try.prog 37 #[.pointer (some ⟨R, 0, none⟩)] w (BF w0 l R a c [9] (.int .i64 0) 5 (((0 : Nat)) : Int)) :=
  bf_of h (show numO [9] 0 = .inl 5 by kernel_rfl) (num_read w R a c _ 0 h.head)
theorem kC (w0 w : World) (l : List Thg) (R : Nat) (a : Option Addr) (c : Nat) (h : Bag w0 w (rdr R a c [2, 1] 0 0 0 :: l)) : Calls Try.prog 37 #[.pointer (some ⟨R, 0, none⟩)] w (BF w0 l R a c [2, 1] (.int .i64 0) 6 (((0 : Nat)) : Int)) :=
  bf_of h (show numO [2, 1] 0 = .inl 6 by kernel_rfl) (num_read w R a c _ 0 h.head)
theorem kD (w0 w : World) (l : List Thg) (R : Nat) (a : Option Addr) (c : Nat) (h : Bag w0 w (rdr R a c [1, 5, 0] 0 0 0 :: l)) : Calls Try.prog 37 #[.pointer (some ⟨R, 0, none⟩)] w (BR w0 l R a c [1, 5, 0] (.int .i64 5) 2 0 0) :=
  br_of h (show numO [1, 5, 0] 0 = .inr (5, 2) by kernel_rfl) (num_read w R a c _ 0 h.head)
theorem kDr (w0 w : World) (l : List Thg) (R : Nat) (a : Option Addr) (c : Nat) (h : Bag w0 w (rdr R a c [1, 5, 0] 2 0 0 :: l)) : Calls Try.prog 33 #[.pointer (some ⟨R, 0, none⟩)] w (BR w0 l R a c [1, 5, 0] (.int .i64 1) 2 0 0) := br_rest h
theorem kG (w0 w : World) (l : List Thg) (R : Nat) (a : Option Addr) (c : Nat) (h : Bag w0 w (rdr R a c [1, 3, 97] 0 0 0 :: l)) : Calls Try.prog 38 #[.pointer (some ⟨R, 0, none⟩), .int .i64 2] w (BF w0 l R a c [1, 3, 97] (.string ⟨#[]⟩) 4 (((0 : Nat)) : Int)) :=
  bf_of h (show sizedO [1, 3, 97] 0 2 = .inl 4 by kernel_rfl) (text_read w R a c _ 0 2 h.head)
theorem kH (w0 w : World) (l : List Thg) (R : Nat) (a : Option Addr) (c : Nat) (h : Bag w0 w (rdr R a c [1, 2, 2] 0 0 0 :: l)) : Calls Try.prog 37 #[.pointer (some ⟨R, 0, none⟩)] w (BR w0 l R a c [1, 2, 2] (.int .i64 2) 2 0 0) :=
  br_of h (show numO [1, 2, 2] 0 = .inr (2, 2) by kernel_rfl) (num_read w R a c _ 0 h.head)
theorem kHb (w0 w : World) (l : List Thg) (R : Nat) (a : Option Addr) (c : Nat) (h : Bag w0 w (rdr R a c [1, 2, 2] 2 0 0 :: l)) : Calls Try.prog 44 #[.pointer (some ⟨R, 0, none⟩)] w (BF w0 l R a c [1, 2, 2] (.bool false) 5 (((2 : Nat)) : Int)) :=
  bf_of h (show boolO [1, 2, 2] 2 = .inl 5 by kernel_rfl) (bool_read w R a c _ 2 h.head)
theorem kP (w0 w : World) (l : List Thg) (R : Nat) (a : Option Addr) (c : Nat) (h : Bag w0 w (rdr R a c [255, 255, 255, 255, 255, 255, 255, 255] 0 0 0 :: l)) : Calls Try.prog 43 #[.pointer (some ⟨R, 0, none⟩)] w (BF w0 l R a c [255, 255, 255, 255, 255, 255, 255, 255] (.float .f64 0) 5 (((0 : Nat)) : Int)) :=
  bf_of h (show paceO [255, 255, 255, 255, 255, 255, 255, 255] 0 = .inl 5 by kernel_rfl) (pace_read w R a c _ 0 h.head)
theorem eA (w0 w : World) (l : List Thg) (R : Nat) (a : Option Addr) (c : Nat) (p : Nat) (h : Bag w0 w (rdr R a c [1, 0] p 5 0 :: l)) : Calls Try.prog 46 #[.pointer (some ⟨R, 0, none⟩), .int .i64 5, .int .i64 0] w fun e w' => e = .returned (.bool true) ∧ Bag w0 w' l :=
  (ends_any w0 w l R a c _ p 5 0 5 0 h (endF _ p 5 0 (by decide)).1 (endF _ p 5 0 (by decide)).2).mono fun _ _ ⟨h1, h2⟩ => ⟨h1, h2.drop⟩
theorem eB (w0 w : World) (l : List Thg) (R : Nat) (a : Option Addr) (c : Nat) (p : Nat) (h : Bag w0 w (rdr R a c [9] p 5 0 :: l)) : Calls Try.prog 46 #[.pointer (some ⟨R, 0, none⟩), .int .i64 5, .int .i64 0] w fun e w' => e = .returned (.bool true) ∧ Bag w0 w' l :=
  (ends_any w0 w l R a c _ p 5 0 5 0 h (endF _ p 5 0 (by decide)).1 (endF _ p 5 0 (by decide)).2).mono fun _ _ ⟨h1, h2⟩ => ⟨h1, h2.drop⟩
theorem eC (w0 w : World) (l : List Thg) (R : Nat) (a : Option Addr) (c : Nat) (p : Nat) (h : Bag w0 w (rdr R a c [2, 1] p 6 0 :: l)) : Calls Try.prog 46 #[.pointer (some ⟨R, 0, none⟩), .int .i64 6, .int .i64 0] w fun e w' => e = .returned (.bool true) ∧ Bag w0 w' l :=
  (ends_any w0 w l R a c _ p 6 0 6 0 h (endF _ p 6 0 (by decide)).1 (endF _ p 6 0 (by decide)).2).mono fun _ _ ⟨h1, h2⟩ => ⟨h1, h2.drop⟩
theorem eG (w0 w : World) (l : List Thg) (R : Nat) (a : Option Addr) (c : Nat) (p : Nat) (h : Bag w0 w (rdr R a c [1, 3, 97] p 4 0 :: l)) : Calls Try.prog 46 #[.pointer (some ⟨R, 0, none⟩), .int .i64 4, .int .i64 0] w fun e w' => e = .returned (.bool true) ∧ Bag w0 w' l :=
  (ends_any w0 w l R a c _ p 4 0 4 0 h (endF _ p 4 0 (by decide)).1 (endF _ p 4 0 (by decide)).2).mono fun _ _ ⟨h1, h2⟩ => ⟨h1, h2.drop⟩
theorem eH (w0 w : World) (l : List Thg) (R : Nat) (a : Option Addr) (c : Nat) (p : Nat) (h : Bag w0 w (rdr R a c [1, 2, 2] p 5 2 :: l)) : Calls Try.prog 46 #[.pointer (some ⟨R, 0, none⟩), .int .i64 5, .int .i64 2] w fun e w' => e = .returned (.bool true) ∧ Bag w0 w' l :=
  (ends_any w0 w l R a c _ p 5 2 5 2 h (endF _ p 5 2 (by decide)).1 (endF _ p 5 2 (by decide)).2).mono fun _ _ ⟨h1, h2⟩ => ⟨h1, h2.drop⟩
theorem eP (w0 w : World) (l : List Thg) (R : Nat) (a : Option Addr) (c : Nat) (p : Nat) (h : Bag w0 w (rdr R a c [255, 255, 255, 255, 255, 255, 255, 255] p 5 0 :: l)) : Calls Try.prog 46 #[.pointer (some ⟨R, 0, none⟩), .int .i64 5, .int .i64 0] w fun e w' => e = .returned (.bool true) ∧ Bag w0 w' l :=
  (ends_any w0 w l R a c _ p 5 0 5 0 h (endF _ p 5 0 (by decide)).1 (endF _ p 5 0 (by decide)).2).mono fun _ _ ⟨h1, h2⟩ => ⟨h1, h2.drop⟩
theorem eD (w0 w : World) (l : List Thg) (R : Nat) (a : Option Addr) (c : Nat) (h : Bag w0 w (rdr R a c [1, 5, 0] 2 0 0 :: l)) : Calls Try.prog 46 #[.pointer (some ⟨R, 0, none⟩), .int .i64 4, .int .i64 2] w fun e w' => e = .returned (.bool true) ∧ Bag w0 w' l :=
  (ends_any w0 w l R a c _ 2 0 0 4 2 h (by kernel_rfl) (by kernel_rfl)).mono fun _ _ ⟨h1, h2⟩ => ⟨h1, h2.drop⟩
set_option maxRecDepth 10000 in
set_option maxHeartbeats 8000000 in
theorem known_any (w : World) : Calls Try.prog 6 #[] w fun e w' => e = .returned (.bool true) ∧ Below w.heap.size w w' := by
  have HB := WirS.hide (Bag.nil (Below.refl w.heap.size w))
  go_enter Try.func6, Try.ntmps6
  go_upto_region 2 with ((go_at_call 20; refine (new_any _ 9 (by omega) (by omega)).mono ?_; rintro e w1 ⟨W, rfl, hW, hs, hb⟩; have HB1 := WirS.hide (bag_wtr HB.out hW hs (newB_nil _ _ _) hb); clear hW hs hb HB))
  go_upto_region 3 with ((go_at_call 20; refine (new_any _ 2 (by omega) (by omega)).mono ?_; rintro e w2 ⟨V, rfl, hW, hs, hb⟩; have HB := WirS.hide (bag_wtr HB1.out hW hs (newB_nil _ _ _) hb); clear hW hs hb HB1))
  go_upto_region 6 with (first | ((go_at_call 30; ((with_reducible refine (litA w _ _ HB.out).mono ?_); rintro e w1 ⟨RA, aA, cA, rfl, hb⟩; clear HB; have HB := WirS.hide hb; clear hb))) | ((go_at_call 30; ((with_reducible refine (litB w _ _ HB.out).mono ?_); rintro e w1 ⟨RB, aB, cB, rfl, hb⟩; clear HB; have HB := WirS.hide hb; clear hb))) | ((go_at_call 30; ((with_reducible refine (litC w _ _ HB.out).mono ?_); rintro e w1 ⟨RC, aC, cC, rfl, hb⟩; clear HB; have HB := WirS.hide hb; clear hb))) | ((go_at_call 30; ((with_reducible refine (litD w _ _ HB.out).mono ?_); rintro e w1 ⟨RD, aD, cD, rfl, hb⟩; clear HB; have HB := WirS.hide hb; clear hb))) | ((go_at_call 30; ((with_reducible refine (litG w _ _ HB.out).mono ?_); rintro e w1 ⟨RG, aG, cG, rfl, hb⟩; clear HB; have HB := WirS.hide hb; clear hb))) | ((go_at_call 30; ((with_reducible refine (litH w _ _ HB.out).mono ?_); rintro e w1 ⟨RH, aH, cH, rfl, hb⟩; clear HB; have HB := WirS.hide hb; clear hb))) | ((go_at_call 30; ((with_reducible refine (litP w _ _ HB.out).mono ?_); rintro e w1 ⟨RP, aP, cP, rfl, hb⟩; clear HB; have HB := WirS.hide hb; clear hb))))
  have HC := WirS.hide (HB.out.perm (List.reverse_perm _).symm)
  simp only [List.reverse_cons, List.reverse_nil, List.nil_append, List.cons_append] at HC
  clear HB
  have HB := WirS.hide HC.out
  clear HC
  go_upto_region 9 with (first | ((go_at_call 45; ((with_reducible refine (kn2 w _ _ _ _ HB.out).mono ?_); rintro e w1 ⟨rfl, v1, hb⟩; clear HB; have HB := WirS.hide hb.swap; clear hb))) | ((go_at_call 45; ((with_reducible refine (kn3 w _ _ _ _ HB.out).mono ?_); rintro e w1 ⟨rfl, v1, hb⟩; clear HB; have HB := WirS.hide hb; clear hb))) | ((go_at_call 45; ((with_reducible refine (kn4 w _ _ _ _ HB.out).mono ?_); rintro e w1 ⟨rfl, v1, hb⟩; clear HB; have HB := WirS.hide hb.swap; clear hb))) | ((go_at_call 45; ((refine (kn1 w _ _ _ _ HB.out).mono ?_); rintro e w1 ⟨rfl, v1, hb⟩; clear HB; have HB := WirS.hide hb; clear hb))))
  go_upto_region 10 with (((go_at_call 27; ((with_reducible refine (kn5 w _ _ _ _ HB.out).mono ?_); rintro e w1 ⟨rfl, hb⟩; clear HB; have HB := WirS.hide hb.drop; clear hb))))
  go_wp2_with (first | ((go_at_call 37; ((with_reducible refine (kA w _ _ _ _ _ HB.out).mono ?_); rintro e w1 ⟨rfl, p, hb⟩; clear HB; have HB := WirS.hide hb; clear hb))) | ((go_at_call 37; ((with_reducible refine (kB w _ _ _ _ _ HB.out).mono ?_); rintro e w1 ⟨rfl, p, hb⟩; clear HB; have HB := WirS.hide hb; clear hb))) | ((go_at_call 37; ((with_reducible refine (kC w _ _ _ _ _ HB.out).mono ?_); rintro e w1 ⟨rfl, p, hb⟩; clear HB; have HB := WirS.hide hb; clear hb))) | ((go_at_call 37; ((with_reducible refine (kD w _ _ _ _ _ HB.out).mono ?_); rintro e w1 ⟨rfl, hb⟩; clear HB; have HB := WirS.hide hb; clear hb))) | ((go_at_call 37; ((with_reducible refine (kH w _ _ _ _ _ HB.out).mono ?_); rintro e w1 ⟨rfl, hb⟩; clear HB; have HB := WirS.hide hb; clear hb))) | ((go_at_call 33; ((with_reducible refine (kDr w _ _ _ _ _ HB.out).mono ?_); rintro e w1 ⟨rfl, hb⟩; clear HB; have HB := WirS.hide hb; clear hb))) | ((go_at_call 38; ((with_reducible refine (kG w _ _ _ _ _ HB.out).mono ?_); rintro e w1 ⟨rfl, p, hb⟩; clear HB; have HB := WirS.hide hb; clear hb))) | ((go_at_call 44; ((with_reducible refine (kHb w _ _ _ _ _ HB.out).mono ?_); rintro e w1 ⟨rfl, p, hb⟩; clear HB; have HB := WirS.hide hb; clear hb))) | ((go_at_call 43; ((with_reducible refine (kP w _ _ _ _ _ HB.out).mono ?_); rintro e w1 ⟨rfl, p, hb⟩; clear HB; have HB := WirS.hide hb; clear hb))) | ((go_at_call 46; ((with_reducible refine (eA w _ _ _ _ _ _ HB.out).mono ?_); rintro e w1 ⟨rfl, hb⟩; clear HB; have HB := WirS.hide hb; clear hb))) | ((go_at_call 46; ((with_reducible refine (eB w _ _ _ _ _ _ HB.out).mono ?_); rintro e w1 ⟨rfl, hb⟩; clear HB; have HB := WirS.hide hb; clear hb))) | ((go_at_call 46; ((with_reducible refine (eC w _ _ _ _ _ _ HB.out).mono ?_); rintro e w1 ⟨rfl, hb⟩; clear HB; have HB := WirS.hide hb; clear hb))) | ((go_at_call 46; ((with_reducible refine (eG w _ _ _ _ _ _ HB.out).mono ?_); rintro e w1 ⟨rfl, hb⟩; clear HB; have HB := WirS.hide hb; clear hb))) | ((go_at_call 46; ((with_reducible refine (eH w _ _ _ _ _ _ HB.out).mono ?_); rintro e w1 ⟨rfl, hb⟩; clear HB; have HB := WirS.hide hb; clear hb))) | ((go_at_call 46; ((with_reducible refine (eP w _ _ _ _ _ _ HB.out).mono ?_); rintro e w1 ⟨rfl, hb⟩; clear HB; have HB := WirS.hide hb; clear hb))) | ((go_at_call 46; ((with_reducible refine (eD w _ _ _ _ _ HB.out).mono ?_); rintro e w1 ⟨rfl, hb⟩; clear HB; have HB := WirS.hide hb; clear hb))) | ((go_at_call 19; ((with_reducible refine (awake_any _).mono ?_); rintro e w1 ⟨rfl, hb0⟩; have hb := HB.out.more hb0; clear hb0; clear HB; have HB := WirS.hide hb; clear hb))))
  trace_state
  go_ret
  exact ⟨rfl, HB.out.low⟩
end WirY
end Go.Proofs.Ythcemghamdmjmaa

