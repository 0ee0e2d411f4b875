/-
  WireKnown walked: the chapter's examples are answered as it says.
-/
import Derived.Test.YtplinpbmncccoaaWirX
namespace Go.Proofs.Ytplinpbmncccoaa
namespace WirY
open Go.RowKit
open BlkM WirM WirS WirA WirB WirC WirD WirE WirF WirG WirH WirI WirJ WirK WirL WirN WirO WirP WirQ WirR WirT WirU WirV WirW WirX

theorem bin_lit (u : World) (l : List Int) (n : Nat) (hn : n = l.length) : BIn (u.alloc (.cells (b8 l).toArray 5)) (.slice (some ⟨u.heap.size, 0, none⟩) n n) l := by
  subst hn
  have := BIn.new u 5 l l.length l.length (0, 0) (Nat.le_refl _) (Nat.le_refl _)
  rwa [List.take_length] at this
theorem read_lit (w0 u : World) (l : List Thg) (bs : List Int) (n : Nat) (hn : n = bs.length) (h : Bag w0 u l) (hr : ∀ x ∈ bs, 0 ≤ x ∧ x < 256) (hs : n ≤ 1099511627776) :
    Calls Try.prog 30 #[.slice (some ⟨u.heap.size, 0, none⟩) n n] (u.alloc (.cells (b8 bs).toArray 5)) fun e w' => ∃ R a c, e = .returned (.pointer (some ⟨R, 0, none⟩)) ∧ Bag w0 w' (rdr R a c bs 0 0 0 :: l) :=
  (newReader_any _ _ _ _ bs (bin_lit u bs n hn) hr hs).mono fun _ _ ⟨R, a, c, h1, h2, h3, h4, h5⟩ => ⟨R, a, c, h1, bag_rdr (h.more (Below.alloc (Below.refl _ _) (Nat.le_refl _) _)) h2 h3 h4 h5⟩
theorem litA (w0 u : World) (l : List Thg) (h : Bag w0 u l) : Calls Try.prog 30 #[.slice (some ⟨u.heap.size, 0, none⟩) 2 2] (u.alloc (.cells #[.int .u8 1, .int .u8 0] 5)) fun e w' => ∃ R a c, e = .returned (.pointer (some ⟨R, 0, none⟩)) ∧ Bag w0 w' (rdr R a c [1, 0] 0 0 0 :: l) :=
  read_lit w0 u l [1, 0] 2 rfl h (by decide) (by omega)
theorem litB (w0 u : World) (l : List Thg) (h : Bag w0 u l) : Calls Try.prog 30 #[.slice (some ⟨u.heap.size, 0, none⟩) 1 1] (u.alloc (.cells #[.int .u8 9] 5)) fun e w' => ∃ R a c, e = .returned (.pointer (some ⟨R, 0, none⟩)) ∧ Bag w0 w' (rdr R a c [9] 0 0 0 :: l) :=
  read_lit w0 u l [9] 1 rfl h (by decide) (by omega)
theorem litC (w0 u : World) (l : List Thg) (h : Bag w0 u l) : Calls Try.prog 30 #[.slice (some ⟨u.heap.size, 0, none⟩) 2 2] (u.alloc (.cells #[.int .u8 2, .int .u8 1] 5)) fun e w' => ∃ R a c, e = .returned (.pointer (some ⟨R, 0, none⟩)) ∧ Bag w0 w' (rdr R a c [2, 1] 0 0 0 :: l) :=
  read_lit w0 u l [2, 1] 2 rfl h (by decide) (by omega)
theorem litD (w0 u : World) (l : List Thg) (h : Bag w0 u l) : Calls Try.prog 30 #[.slice (some ⟨u.heap.size, 0, none⟩) 3 3] (u.alloc (.cells #[.int .u8 1, .int .u8 5, .int .u8 0] 5)) fun e w' => ∃ R a c, e = .returned (.pointer (some ⟨R, 0, none⟩)) ∧ Bag w0 w' (rdr R a c [1, 5, 0] 0 0 0 :: l) :=
  read_lit w0 u l [1, 5, 0] 3 rfl h (by decide) (by omega)
theorem litG (w0 u : World) (l : List Thg) (h : Bag w0 u l) : Calls Try.prog 30 #[.slice (some ⟨u.heap.size, 0, none⟩) 3 3] (u.alloc (.cells #[.int .u8 1, .int .u8 3, .int .u8 97] 5)) fun e w' => ∃ R a c, e = .returned (.pointer (some ⟨R, 0, none⟩)) ∧ Bag w0 w' (rdr R a c [1, 3, 97] 0 0 0 :: l) :=
  read_lit w0 u l [1, 3, 97] 3 rfl h (by decide) (by omega)
theorem litH (w0 u : World) (l : List Thg) (h : Bag w0 u l) : Calls Try.prog 30 #[.slice (some ⟨u.heap.size, 0, none⟩) 3 3] (u.alloc (.cells #[.int .u8 1, .int .u8 2, .int .u8 2] 5)) fun e w' => ∃ R a c, e = .returned (.pointer (some ⟨R, 0, none⟩)) ∧ Bag w0 w' (rdr R a c [1, 2, 2] 0 0 0 :: l) :=
  read_lit w0 u l [1, 2, 2] 3 rfl h (by decide) (by omega)
theorem litP (w0 u : World) (l : List Thg) (h : Bag w0 u l) : Calls Try.prog 30 #[.slice (some ⟨u.heap.size, 0, none⟩) 8 8] (u.alloc (.cells #[.int .u8 255, .int .u8 255, .int .u8 255, .int .u8 255, .int .u8 255, .int .u8 255, .int .u8 255, .int .u8 255] 5)) fun e w' => ∃ R a c, e = .returned (.pointer (some ⟨R, 0, none⟩)) ∧ Bag w0 w' (rdr R a c [255, 255, 255, 255, 255, 255, 255, 255] 0 0 0 :: l) :=
  read_lit w0 u l [255, 255, 255, 255, 255, 255, 255, 255] 8 rfl h (by decide) (by omega)
theorem kn1 (w0 w : World) (l : List Thg) (W : Nat) (v : Value) (h : Bag w0 w (wtr W 9 v [] 0 :: l)) : Calls Try.prog 45 #[.pointer (some ⟨W, 0, none⟩), .int .i64 (-1)] w (BW w0 l W 9 [] 3) :=
  bw_of h (num_neg w W 9 v [] 0 (-1) (by omega) h.head)
theorem kn2 (w0 w : World) (l : List Thg) (W : Nat) (v : Value) (h : Bag w0 w (wtr W 9 v [] 3 :: l)) : Calls Try.prog 45 #[.pointer (some ⟨W, 0, none⟩), .int .i64 1] w (BW w0 l W 9 [] 3) := by
  have C := bw_of h (num_any w W 9 v [] 3 1 (by omega) (by omega) h.head)
  rw [show putE 9 3 [] (numB 1).length = 3 by kernel_rfl, show putZ 9 3 [] (numB 1) = [] by kernel_rfl] at C
  exact C
theorem kn3 (w0 w : World) (l : List Thg) (W : Nat) (v : Value) (h : Bag w0 w (wtr W 2 v [] 0 :: l)) : Calls Try.prog 45 #[.pointer (some ⟨W, 0, none⟩), .int .i64 256] w (BW w0 l W 2 [] 4) := by
  have C := bw_of h (num_any w W 2 v [] 0 256 (by omega) (by omega) h.head)
  rw [show putE 2 0 [] (numB 256).length = 4 by kernel_rfl, show putZ 2 0 [] (numB 256) = [] by kernel_rfl] at C
  exact C
theorem kn4 (w0 w : World) (l : List Thg) (W : Nat) (v : Value) (h : Bag w0 w (wtr W 2 v [] 4 :: l)) : Calls Try.prog 45 #[.pointer (some ⟨W, 0, none⟩), .int .i64 1] w (BW w0 l W 2 [] 4) := by
  have C := bw_of h (num_any w W 2 v [] 4 1 (by omega) (by omega) h.head)
  rw [show putE 2 4 [] (numB 1).length = 4 by kernel_rfl, show putZ 2 4 [] (numB 1) = [] by kernel_rfl] at C
  exact C
theorem kn5 (w0 w : World) (l : List Thg) (W : Nat) (v : Value) (h : Bag w0 w (wtr W 9 v [] 3 :: l)) : Calls Try.prog 27 #[.pointer (some ⟨W, 0, none⟩)] w fun e w' => e = .returned (.tuple #[.slice none 0 0, .int .i64 3]) ∧ Bag w0 w' l :=
  (done_err w W 9 v [] 3 h.head (by decide)).mono fun _ _ ⟨h1, h2⟩ => by subst h2; exact ⟨h1, h.drop⟩
theorem endF (bs : List Int) (p : Nat) (fe fa : Int) (h : fe ≠ 0) : endE bs p fe = fe ∧ endA bs p fe fa = fa := by
  have : restN bs p fe = 0 := by unfold restN; rw [if_neg h]
  unfold endE endA
  rw [this]
  simp
theorem kA (w0 w : World) (l : List Thg) (R : Nat) (a : Option Addr) (c : Nat) (h : Bag w0 w (rdr R a c [1, 0] 0 0 0 :: l)) : Calls Try.prog 37 #[.pointer (some ⟨R, 0, none⟩)] w (BF w0 l R a c [1, 0] (.int .i64 0) 5 (((0 : Nat)) : Int)) :=
  bf_of h (show numO [1, 0] 0 = .inl 5 by kernel_rfl) (num_read w R a c _ 0 h.head)
theorem kB (w0 w : World) (l : List Thg) (R : Nat) (a : Option Addr) (c : Nat) (h : Bag w0 w (rdr R a c [9] 0 0 0 :: l)) : Calls Try.prog 37 #[.pointer (some ⟨R, 0, none⟩)] w (BF w0 l R a c [9] (.int .i64 0) 5 (((0 : Nat)) : Int)) :=
  bf_of h (show numO [9] 0 = .inl 5 by kernel_rfl) (num_read w R a c _ 0 h.head)
theorem kC (w0 w : World) (l : List Thg) (R : Nat) (a : Option Addr) (c : Nat) (h : Bag w0 w (rdr R a c [2, 1] 0 0 0 :: l)) : Calls Try.prog 37 #[.pointer (some ⟨R, 0, none⟩)] w (BF w0 l R a c [2, 1] (.int .i64 0) 6 (((0 : Nat)) : Int)) :=
  bf_of h (show numO [2, 1] 0 = .inl 6 by kernel_rfl) (num_read w R a c _ 0 h.head)
theorem kD (w0 w : World) (l : List Thg) (R : Nat) (a : Option Addr) (c : Nat) (h : Bag w0 w (rdr R a c [1, 5, 0] 0 0 0 :: l)) : Calls Try.prog 37 #[.pointer (some ⟨R, 0, none⟩)] w (BR w0 l R a c [1, 5, 0] (.int .i64 5) 2 0 0) :=
  br_of h (show numO [1, 5, 0] 0 = .inr (5, 2) by kernel_rfl) (num_read w R a c _ 0 h.head)
theorem kDr (w0 w : World) (l : List Thg) (R : Nat) (a : Option Addr) (c : Nat) (h : Bag w0 w (rdr R a c [1, 5, 0] 2 0 0 :: l)) : Calls Try.prog 33 #[.pointer (some ⟨R, 0, none⟩)] w (BR w0 l R a c [1, 5, 0] (.int .i64 1) 2 0 0) := br_rest h
theorem kG (w0 w : World) (l : List Thg) (R : Nat) (a : Option Addr) (c : Nat) (h : Bag w0 w (rdr R a c [1, 3, 97] 0 0 0 :: l)) : Calls Try.prog 38 #[.pointer (some ⟨R, 0, none⟩), .int .i64 2] w (BF w0 l R a c [1, 3, 97] (.string ⟨#[]⟩) 4 (((0 : Nat)) : Int)) :=
  bf_of h (show sizedO [1, 3, 97] 0 2 = .inl 4 by kernel_rfl) (text_read w R a c _ 0 2 h.head)
theorem kH (w0 w : World) (l : List Thg) (R : Nat) (a : Option Addr) (c : Nat) (h : Bag w0 w (rdr R a c [1, 2, 2] 0 0 0 :: l)) : Calls Try.prog 37 #[.pointer (some ⟨R, 0, none⟩)] w (BR w0 l R a c [1, 2, 2] (.int .i64 2) 2 0 0) :=
  br_of h (show numO [1, 2, 2] 0 = .inr (2, 2) by kernel_rfl) (num_read w R a c _ 0 h.head)
theorem kHb (w0 w : World) (l : List Thg) (R : Nat) (a : Option Addr) (c : Nat) (h : Bag w0 w (rdr R a c [1, 2, 2] 2 0 0 :: l)) : Calls Try.prog 44 #[.pointer (some ⟨R, 0, none⟩)] w (BF w0 l R a c [1, 2, 2] (.bool false) 5 (((2 : Nat)) : Int)) :=
  bf_of h (show boolO [1, 2, 2] 2 = .inl 5 by kernel_rfl) (bool_read w R a c _ 2 h.head)
theorem kP (w0 w : World) (l : List Thg) (R : Nat) (a : Option Addr) (c : Nat) (h : Bag w0 w (rdr R a c [255, 255, 255, 255, 255, 255, 255, 255] 0 0 0 :: l)) : Calls Try.prog 43 #[.pointer (some ⟨R, 0, none⟩)] w (BF w0 l R a c [255, 255, 255, 255, 255, 255, 255, 255] (.float .f64 0) 5 (((0 : Nat)) : Int)) :=
  bf_of h (show paceO [255, 255, 255, 255, 255, 255, 255, 255] 0 = .inl 5 by kernel_rfl) (pace_read w R a c _ 0 h.head)
theorem eA (w0 w : World) (l : List Thg) (R : Nat) (a : Option Addr) (c : Nat) (p : Nat) (h : Bag w0 w (rdr R a c [1, 0] p 5 0 :: l)) : Calls Try.prog 46 #[.pointer (some ⟨R, 0, none⟩), .int .i64 5, .int .i64 0] w fun e w' => e = .returned (.bool true) ∧ Bag w0 w' l :=
  (ends_any w0 w l R a c _ p 5 0 5 0 h (endF _ p 5 0 (by decide)).1 (endF _ p 5 0 (by decide)).2).mono fun _ _ ⟨h1, h2⟩ => ⟨h1, h2.drop⟩
theorem eB (w0 w : World) (l : List Thg) (R : Nat) (a : Option Addr) (c : Nat) (p : Nat) (h : Bag w0 w (rdr R a c [9] p 5 0 :: l)) : Calls Try.prog 46 #[.pointer (some ⟨R, 0, none⟩), .int .i64 5, .int .i64 0] w fun e w' => e = .returned (.bool true) ∧ Bag w0 w' l :=
  (ends_any w0 w l R a c _ p 5 0 5 0 h (endF _ p 5 0 (by decide)).1 (endF _ p 5 0 (by decide)).2).mono fun _ _ ⟨h1, h2⟩ => ⟨h1, h2.drop⟩
theorem eC (w0 w : World) (l : List Thg) (R : Nat) (a : Option Addr) (c : Nat) (p : Nat) (h : Bag w0 w (rdr R a c [2, 1] p 6 0 :: l)) : Calls Try.prog 46 #[.pointer (some ⟨R, 0, none⟩), .int .i64 6, .int .i64 0] w fun e w' => e = .returned (.bool true) ∧ Bag w0 w' l :=
  (ends_any w0 w l R a c _ p 6 0 6 0 h (endF _ p 6 0 (by decide)).1 (endF _ p 6 0 (by decide)).2).mono fun _ _ ⟨h1, h2⟩ => ⟨h1, h2.drop⟩
theorem eG (w0 w : World) (l : List Thg) (R : Nat) (a : Option Addr) (c : Nat) (p : Nat) (h : Bag w0 w (rdr R a c [1, 3, 97] p 4 0 :: l)) : Calls Try.prog 46 #[.pointer (some ⟨R, 0, none⟩), .int .i64 4, .int .i64 0] w fun e w' => e = .returned (.bool true) ∧ Bag w0 w' l :=
  (ends_any w0 w l R a c _ p 4 0 4 0 h (endF _ p 4 0 (by decide)).1 (endF _ p 4 0 (by decide)).2).mono fun _ _ ⟨h1, h2⟩ => ⟨h1, h2.drop⟩
theorem eH (w0 w : World) (l : List Thg) (R : Nat) (a : Option Addr) (c : Nat) (p : Nat) (h : Bag w0 w (rdr R a c [1, 2, 2] p 5 2 :: l)) : Calls Try.prog 46 #[.pointer (some ⟨R, 0, none⟩), .int .i64 5, .int .i64 2] w fun e w' => e = .returned (.bool true) ∧ Bag w0 w' l :=
  (ends_any w0 w l R a c _ p 5 2 5 2 h (endF _ p 5 2 (by decide)).1 (endF _ p 5 2 (by decide)).2).mono fun _ _ ⟨h1, h2⟩ => ⟨h1, h2.drop⟩
theorem eP (w0 w : World) (l : List Thg) (R : Nat) (a : Option Addr) (c : Nat) (p : Nat) (h : Bag w0 w (rdr R a c [255, 255, 255, 255, 255, 255, 255, 255] p 5 0 :: l)) : Calls Try.prog 46 #[.pointer (some ⟨R, 0, none⟩), .int .i64 5, .int .i64 0] w fun e w' => e = .returned (.bool true) ∧ Bag w0 w' l :=
  (ends_any w0 w l R a c _ p 5 0 5 0 h (endF _ p 5 0 (by decide)).1 (endF _ p 5 0 (by decide)).2).mono fun _ _ ⟨h1, h2⟩ => ⟨h1, h2.drop⟩
theorem eD (w0 w : World) (l : List Thg) (R : Nat) (a : Option Addr) (c : Nat) (h : Bag w0 w (rdr R a c [1, 5, 0] 2 0 0 :: l)) : Calls Try.prog 46 #[.pointer (some ⟨R, 0, none⟩), .int .i64 4, .int .i64 2] w fun e w' => e = .returned (.bool true) ∧ Bag w0 w' l :=
  (ends_any w0 w l R a c _ 2 0 0 4 2 h (by kernel_rfl) (by kernel_rfl)).mono fun _ _ ⟨h1, h2⟩ => ⟨h1, h2.drop⟩
set_option maxRecDepth 10000 in
set_option maxHeartbeats 8000000 in
theorem known_any (w : World) : Calls Try.prog 6 #[] w fun e w' => e = .returned (.bool true) ∧ Below w.heap.size w w' := by
  have HB := WirS.hide (Bag.nil (Below.refl w.heap.size w))
  go_enter Try.func6, Try.ntmps6
  go_upto_region 2 with ((go_at_call 20; refine (new_any _ 9 (by omega) (by omega)).mono ?_; rintro e w1 ⟨W, rfl, hW, hs, hb⟩; have HB1 := WirS.hide (bag_wtr HB.out hW hs (newB_nil _ _ _) hb); clear hW hs hb HB))
  go_upto_region 3 with ((go_at_call 20; refine (new_any _ 2 (by omega) (by omega)).mono ?_; rintro e w2 ⟨V, rfl, hW, hs, hb⟩; have HB := WirS.hide (bag_wtr HB1.out hW hs (newB_nil _ _ _) hb); clear hW hs hb HB1))
  go_upto_region 6 with (first | ((go_at_call 30; ((with_reducible refine (litA w _ _ HB.out).mono ?_); rintro e w1 ⟨RA, aA, cA, rfl, hb⟩; clear HB; have HB := WirS.hide hb; clear hb))) | ((go_at_call 30; ((with_reducible refine (litB w _ _ HB.out).mono ?_); rintro e w1 ⟨RB, aB, cB, rfl, hb⟩; clear HB; have HB := WirS.hide hb; clear hb))) | ((go_at_call 30; ((with_reducible refine (litC w _ _ HB.out).mono ?_); rintro e w1 ⟨RC, aC, cC, rfl, hb⟩; clear HB; have HB := WirS.hide hb; clear hb))) | ((go_at_call 30; ((with_reducible refine (litD w _ _ HB.out).mono ?_); rintro e w1 ⟨RD, aD, cD, rfl, hb⟩; clear HB; have HB := WirS.hide hb; clear hb))) | ((go_at_call 30; ((with_reducible refine (litG w _ _ HB.out).mono ?_); rintro e w1 ⟨RG, aG, cG, rfl, hb⟩; clear HB; have HB := WirS.hide hb; clear hb))) | ((go_at_call 30; ((with_reducible refine (litH w _ _ HB.out).mono ?_); rintro e w1 ⟨RH, aH, cH, rfl, hb⟩; clear HB; have HB := WirS.hide hb; clear hb))) | ((go_at_call 30; ((with_reducible refine (litP w _ _ HB.out).mono ?_); rintro e w1 ⟨RP, aP, cP, rfl, hb⟩; clear HB; have HB := WirS.hide hb; clear hb))))
  have HC := WirS.hide (HB.out.perm (List.reverse_perm _).symm)
  simp only [List.reverse_cons, List.reverse_nil, List.nil_append, List.cons_append] at HC
  clear HB
  have HB := WirS.hide HC.out
  clear HC
  go_upto_region 9 with (first | ((go_at_call 45; ((with_reducible refine (kn2 w _ _ _ _ HB.out).mono ?_); rintro e w1 ⟨rfl, v1, hb⟩; clear HB; have HB := WirS.hide hb.swap; clear hb))) | ((go_at_call 45; ((with_reducible refine (kn3 w _ _ _ _ HB.out).mono ?_); rintro e w1 ⟨rfl, v1, hb⟩; clear HB; have HB := WirS.hide hb; clear hb))) | ((go_at_call 45; ((with_reducible refine (kn4 w _ _ _ _ HB.out).mono ?_); rintro e w1 ⟨rfl, v1, hb⟩; clear HB; have HB := WirS.hide hb.swap; clear hb))) | ((go_at_call 45; ((refine (kn1 w _ _ _ _ HB.out).mono ?_); rintro e w1 ⟨rfl, v1, hb⟩; clear HB; have HB := WirS.hide hb; clear hb))))
  go_upto_region 10 with (((go_at_call 27; ((with_reducible refine (kn5 w _ _ _ _ HB.out).mono ?_); rintro e w1 ⟨rfl, hb⟩; clear HB; have HB := WirS.hide hb.drop; clear hb))))
  go_wp2_with (first | ((go_at_call 37; ((with_reducible refine (kA w _ _ _ _ _ HB.out).mono ?_); rintro e w1 ⟨rfl, p, hb⟩; clear HB; have HB := WirS.hide hb; clear hb))) | ((go_at_call 37; ((with_reducible refine (kB w _ _ _ _ _ HB.out).mono ?_); rintro e w1 ⟨rfl, p, hb⟩; clear HB; have HB := WirS.hide hb; clear hb))) | ((go_at_call 37; ((with_reducible refine (kC w _ _ _ _ _ HB.out).mono ?_); rintro e w1 ⟨rfl, p, hb⟩; clear HB; have HB := WirS.hide hb; clear hb))) | ((go_at_call 37; ((with_reducible refine (kD w _ _ _ _ _ HB.out).mono ?_); rintro e w1 ⟨rfl, hb⟩; clear HB; have HB := WirS.hide hb; clear hb))) | ((go_at_call 37; ((with_reducible refine (kH w _ _ _ _ _ HB.out).mono ?_); rintro e w1 ⟨rfl, hb⟩; clear HB; have HB := WirS.hide hb; clear hb))) | ((go_at_call 33; ((with_reducible refine (kDr w _ _ _ _ _ HB.out).mono ?_); rintro e w1 ⟨rfl, hb⟩; clear HB; have HB := WirS.hide hb; clear hb))) | ((go_at_call 38; ((with_reducible refine (kG w _ _ _ _ _ HB.out).mono ?_); rintro e w1 ⟨rfl, p, hb⟩; clear HB; have HB := WirS.hide hb; clear hb))) | ((go_at_call 44; ((with_reducible refine (kHb w _ _ _ _ _ HB.out).mono ?_); rintro e w1 ⟨rfl, p, hb⟩; clear HB; have HB := WirS.hide hb; clear hb))) | ((go_at_call 43; ((with_reducible refine (kP w _ _ _ _ _ HB.out).mono ?_); rintro e w1 ⟨rfl, p, hb⟩; clear HB; have HB := WirS.hide hb; clear hb))) | ((go_at_call 46; ((with_reducible refine (eA w _ _ _ _ _ _ HB.out).mono ?_); rintro e w1 ⟨rfl, hb⟩; clear HB; have HB := WirS.hide hb; clear hb))) | ((go_at_call 46; ((with_reducible refine (eB w _ _ _ _ _ _ HB.out).mono ?_); rintro e w1 ⟨rfl, hb⟩; clear HB; have HB := WirS.hide hb; clear hb))) | ((go_at_call 46; ((with_reducible refine (eC w _ _ _ _ _ _ HB.out).mono ?_); rintro e w1 ⟨rfl, hb⟩; clear HB; have HB := WirS.hide hb; clear hb))) | ((go_at_call 46; ((with_reducible refine (eG w _ _ _ _ _ _ HB.out).mono ?_); rintro e w1 ⟨rfl, hb⟩; clear HB; have HB := WirS.hide hb; clear hb))) | ((go_at_call 46; ((with_reducible refine (eH w _ _ _ _ _ _ HB.out).mono ?_); rintro e w1 ⟨rfl, hb⟩; clear HB; have HB := WirS.hide hb; clear hb))) | ((go_at_call 46; ((with_reducible refine (eP w _ _ _ _ _ _ HB.out).mono ?_); rintro e w1 ⟨rfl, hb⟩; clear HB; have HB := WirS.hide hb; clear hb))) | ((go_at_call 46; ((with_reducible refine (eD w _ _ _ _ _ HB.out).mono ?_); rintro e w1 ⟨rfl, hb⟩; clear HB; have HB := WirS.hide hb; clear hb))) | ((go_at_call 19; ((with_reducible refine (awake_any _).mono ?_); rintro e w1 ⟨rfl, hb0⟩; have hb := HB.out.more hb0; clear hb0; clear HB; have HB := WirS.hide hb; clear hb))))
  trace_state
  go_ret
  exact ⟨rfl, HB.out.low⟩
end WirY
end Go.Proofs.Ytplinpbmncccoaa
