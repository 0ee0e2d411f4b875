/-
  What the statements ask of the chapter's examples: awake.
-/
import Derived.Test.YtplinpbmncccoaaWirU
namespace Go.Proofs.Ytplinpbmncccoaa
namespace WirV
open Go.RowKit
open BlkM WirM WirS WirA WirB WirC WirD WirE WirF WirG WirH WirI WirJ WirK WirL WirN WirO WirP WirQ WirR WirT WirU

def wl : List Int := [0, 1, 255, 2, 1, 0, 1, 2, 97, 98, 0, 0, 0, 0, 0, 0, 0, 1, 1]
theorem written_any (w : World) : Calls Try.prog 91 #[] w fun e w' => ∃ F, e = .returned (.slice (some ⟨F, 0, none⟩) 19 19) ∧ w.heap.size ≤ F ∧ BIn w' (.slice (some ⟨F, 0, none⟩) 19 19) wl ∧ Below w.heap.size w w' := by
  have hx := BIn.new w 5 wl 19 19 (0, 0) (by decide) (Nat.le_refl _)
  have HX := hide hx
  clear hx
  go_enter Try.func91, Try.ntmps91
  go_wp2
  go_ret
  exact ⟨_, rfl, Nat.le_refl _, HX.out, Below.alloc (Below.refl _ _) (Nat.le_refl _) _⟩
theorem wr0 (w0 w : World) (W : Nat) (v : Value) (h : LW w0 w W 100 v [] 0) : Calls Try.prog 45 #[.pointer (some ⟨W, 0, none⟩), .int .i64 0] w (LWp w0 W 100 [0] 0) := by
  have C := lw_of h (num_any w W 100 v [] 0 0 (by omega) (by omega) h.st)
  rw [show putE 100 0 [] (numB 0).length = 0 by kernel_rfl, show putZ 100 0 [] (numB 0) = [0] by kernel_rfl] at C
  exact C
theorem wr1 (w0 w : World) (W : Nat) (v : Value) (h : LW w0 w W 100 v [0] 0) : Calls Try.prog 45 #[.pointer (some ⟨W, 0, none⟩), .int .i64 255] w (LWp w0 W 100 [0, 1, 255] 0) := by
  have C := lw_of h (num_any w W 100 v [0] 0 255 (by omega) (by omega) h.st)
  rw [show putE 100 0 [0] (numB 255).length = 0 by kernel_rfl, show putZ 100 0 [0] (numB 255) = [0, 1, 255] by kernel_rfl] at C
  exact C
theorem wr2 (w0 w : World) (W : Nat) (v : Value) (h : LW w0 w W 100 v [0, 1, 255] 0) : Calls Try.prog 45 #[.pointer (some ⟨W, 0, none⟩), .int .i64 256] w (LWp w0 W 100 [0, 1, 255, 2, 1, 0] 0) := by
  have C := lw_of h (num_any w W 100 v [0, 1, 255] 0 256 (by omega) (by omega) h.st)
  rw [show putE 100 0 [0, 1, 255] (numB 256).length = 0 by kernel_rfl, show putZ 100 0 [0, 1, 255] (numB 256) = [0, 1, 255, 2, 1, 0] by kernel_rfl] at C
  exact C
theorem wr3 (w0 w : World) (W : Nat) (v : Value) (h : LW w0 w W 100 v [0, 1, 255, 2, 1, 0] 0) : Calls Try.prog 88 #[.pointer (some ⟨W, 0, none⟩), .string ⟨#[97, 98]⟩] w (LWp w0 W 100 [0, 1, 255, 2, 1, 0, 1, 2, 97, 98] 0) := by
  have C := lw_of h (text_any w W 100 v [0, 1, 255, 2, 1, 0] 0 ⟨#[97, 98]⟩ (by decide) h.st)
  rw [show putE 100 0 [0, 1, 255, 2, 1, 0] (numB ((⟨#[97, 98]⟩ : ByteArray).size : Int) ++ tb ⟨#[97, 98]⟩).length = 0 by kernel_rfl, show putZ 100 0 [0, 1, 255, 2, 1, 0] (numB ((⟨#[97, 98]⟩ : ByteArray).size : Int) ++ tb ⟨#[97, 98]⟩) = [0, 1, 255, 2, 1, 0, 1, 2, 97, 98] by kernel_rfl] at C
  exact C
theorem wr4 (w0 w : World) (W : Nat) (v : Value) (h : LW w0 w W 100 v [0, 1, 255, 2, 1, 0, 1, 2, 97, 98] 0) : Calls Try.prog 89 #[.pointer (some ⟨W, 0, none⟩), .int .u64 1] w (LWp w0 W 100 [0, 1, 255, 2, 1, 0, 1, 2, 97, 98, 0, 0, 0, 0, 0, 0, 0, 1] 0) := by
  have C := lw_of h (word_any w W 100 v [0, 1, 255, 2, 1, 0, 1, 2, 97, 98] 0 1 (by omega) (by omega) h.st)
  rw [show putE 100 0 [0, 1, 255, 2, 1, 0, 1, 2, 97, 98] (wordB 1).length = 0 by kernel_rfl, show putZ 100 0 [0, 1, 255, 2, 1, 0, 1, 2, 97, 98] (wordB 1) = [0, 1, 255, 2, 1, 0, 1, 2, 97, 98, 0, 0, 0, 0, 0, 0, 0, 1] by kernel_rfl] at C
  exact C
theorem wr5 (w0 w : World) (W : Nat) (v : Value) (h : LW w0 w W 100 v [0, 1, 255, 2, 1, 0, 1, 2, 97, 98, 0, 0, 0, 0, 0, 0, 0, 1] 0) : Calls Try.prog 90 #[.pointer (some ⟨W, 0, none⟩), .bool true] w (LWp w0 W 100 [0, 1, 255, 2, 1, 0, 1, 2, 97, 98, 0, 0, 0, 0, 0, 0, 0, 1, 1] 0) := by
  have C := lw_of h (bool_any w W 100 v [0, 1, 255, 2, 1, 0, 1, 2, 97, 98, 0, 0, 0, 0, 0, 0, 0, 1] 0 true h.st)
  rw [show putE 100 0 [0, 1, 255, 2, 1, 0, 1, 2, 97, 98, 0, 0, 0, 0, 0, 0, 0, 1] (boolB true).length = 0 by kernel_rfl, show putZ 100 0 [0, 1, 255, 2, 1, 0, 1, 2, 97, 98, 0, 0, 0, 0, 0, 0, 0, 1] (boolB true) = [0, 1, 255, 2, 1, 0, 1, 2, 97, 98, 0, 0, 0, 0, 0, 0, 0, 1, 1] by kernel_rfl] at C
  exact C
theorem rd0 (w0 w : World) (R : Nat) (a : Option Addr) (c : Nat) (h : LR w0 w R a c wl 0 0 0) : Calls Try.prog 37 #[.pointer (some ⟨R, 0, none⟩)] w (LRp w0 R a c wl (.int .i64 0) 1) :=
  lr_of h (show numO wl 0 = .inr (0, 1) by kernel_rfl) (num_read w R a c wl 0 h.st)
theorem rd1 (w0 w : World) (R : Nat) (a : Option Addr) (c : Nat) (h : LR w0 w R a c wl 1 0 0) : Calls Try.prog 37 #[.pointer (some ⟨R, 0, none⟩)] w (LRp w0 R a c wl (.int .i64 255) 3) :=
  lr_of h (show numO wl 1 = .inr (255, 3) by kernel_rfl) (num_read w R a c wl 1 h.st)
theorem rd2 (w0 w : World) (R : Nat) (a : Option Addr) (c : Nat) (h : LR w0 w R a c wl 3 0 0) : Calls Try.prog 37 #[.pointer (some ⟨R, 0, none⟩)] w (LRp w0 R a c wl (.int .i64 256) 6) :=
  lr_of h (show numO wl 3 = .inr (256, 6) by kernel_rfl) (num_read w R a c wl 3 h.st)
theorem rd3 (w0 w : World) (R : Nat) (a : Option Addr) (c : Nat) (h : LR w0 w R a c wl 6 0 0) : Calls Try.prog 38 #[.pointer (some ⟨R, 0, none⟩), .int .i64 2] w (LRp w0 R a c wl (.string ⟨#[97, 98]⟩) 10) := by
  have C := lr_of (f := fun zs => Value.string (st zs)) h (show sizedO wl 6 2 = .inr ([97, 98], 10) by kernel_rfl) (text_read w R a c wl 6 2 h.st)
  rw [show st [97, 98] = ⟨#[97, 98]⟩ by kernel_rfl] at C
  exact C
theorem rd4 (w0 w : World) (R : Nat) (a : Option Addr) (c : Nat) (h : LR w0 w R a c wl 10 0 0) : Calls Try.prog 42 #[.pointer (some ⟨R, 0, none⟩)] w (LRp w0 R a c wl (.int .u64 1) 18) :=
  lr_of h (show wordO wl 10 = .inr (1, 18) by kernel_rfl) (word_read w R a c wl 10 h.st)
theorem rd5 (w0 w : World) (R : Nat) (a : Option Addr) (c : Nat) (h : LR w0 w R a c wl 18 0 0) : Calls Try.prog 44 #[.pointer (some ⟨R, 0, none⟩)] w (LRp w0 R a c wl (.bool true) 19) :=
  lr_of h (show boolO wl 18 = .inr (true, 19) by kernel_rfl) (bool_read w R a c wl 18 h.st)
theorem rdR (w0 w : World) (R : Nat) (a : Option Addr) (c : Nat) (h : LR w0 w R a c wl 19 0 0) : Calls Try.prog 33 #[.pointer (some ⟨R, 0, none⟩)] w (LRp w0 R a c wl (.int .i64 0) 19) :=
  (rest_any w R a c wl 19 0 0 h.st).mono fun e w' ⟨h1, q, h2⟩ => ⟨by rw [h1]; rfl, by rw [h2]; exact h.more (below_drewN (Below.refl _ _) q)⟩
theorem rdE (w0 w : World) (R : Nat) (a : Option Addr) (c : Nat) (h : LR w0 w R a c wl 19 0 0) : Calls Try.prog 35 #[.pointer (some ⟨R, 0, none⟩)] w (LRp w0 R a c wl (.agg #[.int .i64 0, .int .i64 0]) 19) :=
  (end_any w R a c wl 19 0 0 h.st).mono fun e w' ⟨h1, h2⟩ => ⟨by rw [h1]; rfl, h.more h2⟩
theorem wl_rng : ∀ x ∈ wl, 0 ≤ x ∧ x < 256 := by decide
set_option maxRecDepth 10000 in
set_option maxHeartbeats 4000000 in
theorem awake_any (w : World) : Calls Try.prog 19 #[] w fun e w' => e = .returned (.bool true) ∧ Below w.heap.size w w' := by
  go_enter Try.func19, Try.ntmps19
  go_wp2_with ((go_at_call 20; refine (new_any _ 100 (by omega) (by omega)).mono ?_; rintro e w1 ⟨W, rfl, hW, hs, hb⟩))
  have HW := hide (show LW w w1 W 100 (.slice none 0 0) [] 0 from ⟨hs, hW, newB_nil _ _ _, hb⟩)
  clear hs hb hW
  go_upto_region 4 with (first | ((go_at_call 45; ((with_reducible refine (wr0 w _ W _ HW.out).mono ?_); rintro e w1 ⟨rfl, v1, h1⟩; clear HW; have HW := hide h1; clear h1))) | ((go_at_call 45; ((with_reducible refine (wr1 w _ W _ HW.out).mono ?_); rintro e w1 ⟨rfl, v1, h1⟩; clear HW; have HW := hide h1; clear h1))) | ((go_at_call 45; ((with_reducible refine (wr2 w _ W _ HW.out).mono ?_); rintro e w1 ⟨rfl, v1, h1⟩; clear HW; have HW := hide h1; clear h1))) | ((go_at_call 88; ((with_reducible refine (wr3 w _ W _ HW.out).mono ?_); rintro e w1 ⟨rfl, v1, h1⟩; clear HW; have HW := hide h1; clear h1))) | ((go_at_call 89; ((with_reducible refine (wr4 w _ W _ HW.out).mono ?_); rintro e w1 ⟨rfl, v1, h1⟩; clear HW; have HW := hide h1; clear h1))) | ((go_at_call 90; ((with_reducible refine (wr5 w _ W _ HW.out).mono ?_); rintro e w1 ⟨rfl, v1, h1⟩; clear HW; have HW := hide h1; clear h1))))
  have HB := hide HW.out.low
  go_upto_region 5 with ((go_at_call 27; refine (done_ok _ W 100 _ _ HW.out.st).mono ?_; rintro e w2 ⟨da, dn, dc, rfl, ho, hn, hb⟩; have HD := hide ho.bin; have HB2 := hide (HB.out.trans (hb.mono HB.out.size)); clear ho hn hb HB))
  clear HW
  go_upto_region 6 with (first | ((go_at_call 91; refine (written_any _).mono ?_; rintro e w3 ⟨F, rfl, hF, hx, hb⟩; have HX := hide hx; have HD2 := hide (HD.out.below hb); have HB3 := hide (HB2.out.trans (hb.mono HB2.out.size)); clear hx hb hF HD HB2)) | ((go_at_call 30; refine (newReader_any _ _ _ _ wl HX.out wl_rng (by omega)).mono ?_; rintro e w4 ⟨R, ra, rc, rfl, hR, hs, hn, hb⟩; have HR := hide (show LR w w4 R ra rc wl 0 0 0 from ⟨hs, Nat.le_trans HB3.out.size hR, HB3.out.trans (hb.mono HB3.out.size)⟩); have HD := hide (HD2.out.below hb); clear hR hs hn hb HD2 HB3 HX)))
  have HR0 := HR
  clear HR
  have HR := hide HR0.out
  go_wp2_with (first | ((go_at_call 91; refine (written_any _).mono ?_; rintro e w5 ⟨F2, rfl, hF, hx, hb⟩; have HX := hide hx; have HD2 := hide (HD.out.below hb); have HR2 := hide (HR.out.more hb); clear hx hb hF HD HR; have HR := hide HR2.out; clear HR2)) | ((go_at_call 29; refine (same_any _ _ _ _ _ _ _ wl wl HD2.out HX.out wl_rng wl_rng).mono ?_; rintro e w6 ⟨rfl, rfl⟩)) | ((go_at_call 37; ((with_reducible refine (rd0 w _ R ra rc HR.out).mono ?_); rintro e w1 ⟨rfl, h1⟩; clear HR; have HR := hide h1; clear h1))) | ((go_at_call 37; ((with_reducible refine (rd1 w _ R ra rc HR.out).mono ?_); rintro e w1 ⟨rfl, h1⟩; clear HR; have HR := hide h1; clear h1))) | ((go_at_call 37; ((with_reducible refine (rd2 w _ R ra rc HR.out).mono ?_); rintro e w1 ⟨rfl, h1⟩; clear HR; have HR := hide h1; clear h1))) | ((go_at_call 38; ((with_reducible refine (rd3 w _ R ra rc HR.out).mono ?_); rintro e w1 ⟨rfl, h1⟩; clear HR; have HR := hide h1; clear h1))) | ((go_at_call 42; ((with_reducible refine (rd4 w _ R ra rc HR.out).mono ?_); rintro e w1 ⟨rfl, h1⟩; clear HR; have HR := hide h1; clear h1))) | ((go_at_call 44; ((with_reducible refine (rd5 w _ R ra rc HR.out).mono ?_); rintro e w1 ⟨rfl, h1⟩; clear HR; have HR := hide h1; clear h1))) | ((go_at_call 33; ((with_reducible refine (rdR w _ R ra rc HR.out).mono ?_); rintro e w1 ⟨rfl, h1⟩; clear HR; have HR := hide h1; clear h1))) | ((go_at_call 35; ((with_reducible refine (rdE w _ R ra rc HR.out).mono ?_); rintro e w1 ⟨rfl, h1⟩; clear HR; have HR := hide h1; clear h1))))
  go_ret
  exact ⟨rfl, HR.out.low⟩
end WirV
end Go.Proofs.Ytplinpbmncccoaa
