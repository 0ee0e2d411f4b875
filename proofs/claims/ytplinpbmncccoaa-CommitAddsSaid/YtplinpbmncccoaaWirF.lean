/-
  The program's writer: Hash, Key, Word, Bool, Done, NewWriter.
-/
import Derived.Test.YtplinpbmncccoaaWirE
namespace Go.Proofs.Ytplinpbmncccoaa
namespace WirF
open Go.RowKit
open BlkM WirM WirS WirA WirB WirC WirD WirE

theorem hash_any (w : World) (W : Nat) (lim : Int) (v : Value) (zs : List Int) (err : Int) (l : List Int) (hl : l.length = 32) (h : WSt w W lim v zs err) :
    Calls Try.prog 93 #[.pointer (some ⟨W, 0, none⟩), .agg (b8 l).toArray] w (Wrote w W lim v (putZ lim err zs l) (putE lim err zs l.length)) := by
  have hx := BIn.new w 34 l 32 32 (0, 0) (by omega) (Nat.le_refl _)
  have H := hide (put_after w (w.alloc (.cells (b8 l).toArray 34)) W lim v zs err (some ⟨w.heap.size, 0, none⟩) none 32 32 0 0 _ [] (Below.alloc (Below.refl _ _) (Nat.le_refl _) _) h hx (BIn.nil _) (newB_at w _ 0 _ _ (Nat.le_refl _)) (.inl (newB_nil w 0 0)) (by omega) (by omega))
  rw [List.append_nil, show l.take 32 = l by rw [← hl, List.take_length]] at H
  generalize putE lim err zs l.length = E at H ⊢
  generalize putZ lim err zs l = Z at H ⊢
  clear h hx hl
  go_enter Try.func93, Try.ntmps93
  go_wp2_with ((go_at_call 148; refine (H.out).mono ?_; rintro e w2 ⟨rfl, hs⟩; have HS := hide hs; clear hs))
  go_ret
  exact ⟨rfl, HS.out⟩
theorem key_any (w : World) (W : Nat) (lim : Int) (v : Value) (zs : List Int) (err : Int) (l : List Int) (hl : l.length = 4) (h : WSt w W lim v zs err) :
    Calls Try.prog 94 #[.pointer (some ⟨W, 0, none⟩), .agg (b8 l).toArray] w (Wrote w W lim v (putZ lim err zs l) (putE lim err zs l.length)) := by
  have hx := BIn.new w 36 l 4 4 (0, 0) (by omega) (Nat.le_refl _)
  have H := hide (put_after w (w.alloc (.cells (b8 l).toArray 36)) W lim v zs err (some ⟨w.heap.size, 0, none⟩) none 4 4 0 0 _ [] (Below.alloc (Below.refl _ _) (Nat.le_refl _) _) h hx (BIn.nil _) (newB_at w _ 0 _ _ (Nat.le_refl _)) (.inl (newB_nil w 0 0)) (by omega) (by omega))
  rw [List.append_nil, show l.take 4 = l by rw [← hl, List.take_length]] at H
  generalize putE lim err zs l.length = E at H ⊢
  generalize putZ lim err zs l = Z at H ⊢
  clear h hx hl
  go_enter Try.func94, Try.ntmps94
  go_wp2_with ((go_at_call 148; refine (H.out).mono ?_; rintro e w2 ⟨rfl, hs⟩; have HS := hide hs; clear hs))
  go_ret
  exact ⟨rfl, HS.out⟩
/-- The form of a bool. -/
def boolB (b : Bool) : List Int := [if b then 1 else 0]
theorem bool_any (w : World) (W : Nat) (lim : Int) (v : Value) (zs : List Int) (err : Int) (b : Bool) (h : WSt w W lim v zs err) :
    Calls Try.prog 90 #[.pointer (some ⟨W, 0, none⟩), .bool b] w (Wrote w W lim v (putZ lim err zs (boolB b)) (putE lim err zs (boolB b).length)) := by
  have H : ∀ l : List Int, l.length = 1 → Hid (Calls Try.prog 148 #[.pointer (some ⟨W, 0, none⟩), .slice (some ⟨w.heap.size, 0, none⟩) 1 1, .slice none 0 0] (w.alloc (.cells (b8 l).toArray 198)) (Wrote w W lim v (putZ lim err zs l) (putE lim err zs l.length))) := fun l hl => by
    have hx := BIn.new w 198 l 1 1 (0, 0) (by omega) (Nat.le_refl _)
    have H := put_after w (w.alloc (.cells (b8 l).toArray 198)) W lim v zs err (some ⟨w.heap.size, 0, none⟩) none 1 1 0 0 _ [] (Below.alloc (Below.refl _ _) (Nat.le_refl _) _) h hx (BIn.nil _) (newB_at w _ 0 _ _ (Nat.le_refl _)) (.inl (newB_nil w 0 0)) (by omega) (by omega)
    rw [List.append_nil, show l.take 1 = l by rw [← hl, List.take_length]] at H
    exact hide H
  have H1 := H (boolB b) rfl
  generalize putE lim err zs (boolB b).length = E at H1 ⊢
  generalize putZ lim err zs (boolB b) = Z at H1 ⊢
  clear h H
  cases b
  all_goals
    go_enter Try.func90, Try.ntmps90
    go_wp2_with ((go_at_call 148; refine (H1.out).mono ?_; rintro e w2 ⟨rfl, hs⟩; have HS := hide hs; clear hs))
    go_ret
    exact ⟨rfl, HS.out⟩
/-- The form of a word. -/
def wordB (n : Int) : List Int := (cp n 8 8).drop 1
theorem wordB_len (n : Int) : (wordB n).length = 8 := by simp [wordB, cp_len]
theorem sl9l (D : Nat) (Y : World) : (Instr.sliceAt 196 (.pointer (some ⟨D, 0, none⟩)) (some (.int .i64 1)) none none).run Try.prog Y = .ok (.slice (some ⟨D, 1, none⟩) 8 8) Y := by
  have ha : Try.prog.arrayLen 196 = 9 := by kernel_rfl
  rw [run_sliceAt_array_l Y 196 ⟨D, 0, none⟩ (by kernel_rfl) .i64 1 (by omega) (by rw [ha]; omega), ha]
  have hs : (sizeOf (Try.prog.elem 196)).run Try.prog Y = .ok 1 Y := by kernel_rfl
  rw [hs]
  simp [slicedAt, Addr.add_lit]
set_option maxHeartbeats 1000000 in
theorem word_any (w : World) (W : Nat) (lim : Int) (v : Value) (zs : List Int) (err n : Int) (h0 : 0 ≤ n) (h1 : n < 18446744073709551616) (h : WSt w W lim v zs err) :
    Calls Try.prog 89 #[.pointer (some ⟨W, 0, none⟩), .int .u64 n] w (Wrote w W lim v (putZ lim err zs (wordB n)) (putE lim err zs (wordB n).length)) := by
  have C := hide (counted_any w n 8 (by omega) h0 h1)
  have H : ∀ W1 F, Below w.heap.size w W1 → w.heap.size ≤ F → At W1 F 196 (b8 (cp n 8 8)) → Hid (Calls Try.prog 148 #[.pointer (some ⟨W, 0, none⟩), .slice (some ⟨F, 1, none⟩) 8 8, .slice none 0 0] W1 (Wrote w W lim v (putZ lim err zs (wordB n)) (putE lim err zs (wordB n).length))) := fun W1 F hb hF hA => by
    have hx : BIn W1 (.slice (some ⟨F, 1, none⟩) 8 8) (wordB n) := by
      refine ⟨_, 8, by rw [wordB_len], by rw [wordB_len]; omega, fun _ => ⟨F, 1, rfl, hA.lt, fun i hi => ?_⟩⟩
      rw [wordB_len] at hi
      rw [hA.cell, b8_get _ (1 + i) (by rw [cp_len]; omega)]
      unfold wordB
      simp [List.getD, Nat.add_comm]
    have H := put_after w W1 W lim v zs err (some ⟨F, 1, none⟩) none 8 8 0 0 _ [] hb h hx (BIn.nil _) (newB_at w F 1 _ _ hF) (.inl (newB_nil w 0 0)) (by omega) (by omega)
    rw [List.append_nil] at H
    exact hide H
  have HH := hide H
  have hs := sl9l
  generalize putE lim err zs (wordB n).length = E at HH ⊢
  generalize putZ lim err zs (wordB n) = Z at HH ⊢
  clear h H
  go_enter Try.func89, Try.ntmps89
  go_upto_region 1 with fail
  refine wp_region_lit ?_
  refine sV (.int .u64 n) (w) (by kernel_rfl) (by kernel_rfl) ?_
  simp only [Act.put, List.setIfInBounds_toArray, List.set_cons_succ, List.set_cons_zero]
  refine sC (by kernel_rfl) (by kernel_rfl) C.out ?_
  rintro w2 hb2
  simp only [Act.put, List.setIfInBounds_toArray, List.set_cons_succ, List.set_cons_zero]
  obtain ⟨F, hF⟩ : ∃ F, F = w2.heap.size := ⟨_, rfl⟩
  refine sV (.pointer (some ⟨w2.heap.size, 0, none⟩)) (w2.alloc (.cells (b8 z9).toArray 196)) (by kernel_rfl) (al9 _ _ rfl w2) ?_
  simp only [Act.put, List.setIfInBounds_toArray, List.set_cons_succ, List.set_cons_zero]
  refine stepStore (by rfl) _ _ _ (by rfl) _ (b8 (cp n 8 8)) (by kernel_rfl) (by kernel_rfl) (At.new w2 196 (b8 z9)) 9 (by kernel_rfl) (by rw [b8_len]; rfl) (by rw [b8_len, cp_len]) (all_oneCell_toArray (one_b8 _)) ?_
  obtain ⟨W3, eW⟩ : ∃ X, X = (w2.alloc (.cells (b8 z9).toArray 196)).setRow w2.heap.size (b8 (cp n 8 8)).toArray := ⟨_, rfl⟩
  have hA : At W3 F 196 (b8 (cp n 8 8)) := by rw [eW, hF]; exact (At.new w2 _ (b8 z9)).put _
  have hB : Below w2.heap.size w2 W3 := by rw [eW]; exact Below.setRowOwn (Below.alloc (Below.refl _ _) (Nat.le_refl _) _) (Nat.le_refl _) _
  rw [← eW, ← hF]
  have K := HH.out W3 F (hb2.trans (hB.mono hb2.size)) (by rw [hF]; exact hb2.size) hA
  have hs := hs F
  clear eW hA hB hF hb2 C
  go_wp2_with ((go_at_call 148; refine (K.out).mono ?_; rintro e w4 ⟨rfl, hs⟩; have HS := hide hs; clear hs))
  go_ret
  exact ⟨rfl, HS.out⟩
/-! ### NewWriter, Done -/
theorem new_no (w : World) (lim : Int) (h : lim < 0 ∨ 1048576 < lim) : Calls Try.prog 20 #[.int .i64 lim] w fun e w' => e = .returned (.tuple #[.pointer none, .int .i64 3]) ∧ w = w' := by
  by_cases h0 : lim < 0
  · clear h
    go_enter Try.func20, Try.ntmps20
    go_wp2
    go_ret2
    exact ⟨rfl, rfl⟩
  · have h1 : 1048576 < lim := by omega
    clear h
    go_enter Try.func20, Try.ntmps20
    go_wp2
    go_ret2
    exact ⟨rfl, rfl⟩
theorem new_any (w : World) (lim : Int) (h0 : 0 ≤ lim) (h1 : lim ≤ 1048576) : Calls Try.prog 20 #[.int .i64 lim] w fun e w' => ∃ W, e = .returned (.tuple #[.pointer (some ⟨W, 0, none⟩), .int .i64 0]) ∧ w.heap.size ≤ W ∧ WSt w' W lim (.slice none 0 0) [] 0 ∧ Below w.heap.size w w' := by
  have k0 : ¬ lim < 0 := by omega
  have k1 : ¬ 1048576 < lim := by omega
  go_enter Try.func20, Try.ntmps20
  go_wp2
  go_ret2
  exact ⟨_, rfl, Nat.le_refl _, ⟨At.new w 59 (wcells w.heap.size lim (.slice none 0 0) 0), Own.nil _ _, by simp [Value.ownBlock], h0, h1, by simpa using h0⟩, Below.alloc (Below.refl _ _) (Nat.le_refl _) _⟩
/-- bytes.Clone. -/
theorem ownNew (w : World) : Own (w.alloc (.cells #[] 5)) 5 (.slice (some ⟨w.heap.size, 0, none⟩) 0 0) [] := World.ownsRow_made w #[] 0 (Nat.zero_le _) (Nat.zero_le _) (by simp)
theorem clone_any (w : World) (a : Option Addr) (n c : Nat) (zs : List Int) (h : BIn w (.slice a n c) zs) (hn : n ≤ 1099511627776) :
    Calls Try.prog 106 #[.slice a n c] w fun e w' => ∃ va vn vc, e = .returned (.slice va vn vc) ∧ Own w' 5 (.slice va vn vc) zs ∧ NewB w (.slice va vn vc) ∧ Below w.heap.size w w' := by
  obtain ⟨a', c', e1, hc, hz⟩ := id h
  obtain ⟨rfl, rfl, rfl⟩ : a = a' ∧ n = zs.length ∧ c = c' := by cases e1; exact ⟨rfl, rfl, rfl⟩
  cases a with
  | none =>
    have hz0 : zs = [] := by
      by_cases hne : zs = []
      · exact hne
      · obtain ⟨_, _, hx, _⟩ := hz hne
        cases hx
    subst hz0
    clear hz h hc e1
    have hq : ∀ W : World, (binOp .eql 32 (.slice none 0 c) (.slice none 0 0)).run Try.prog W = .ok (.bool true) W := fun W => Lib.run_eql_slice_nil W 32 _ _ _ _ _ _ Try.underlying32
    show Calls _ _ #[.slice none 0 c] w _
    go_enter Try.func106, Try.ntmps106
    go_wp2_with fail
    go_ret
    exact ⟨none, 0, 0, rfl, Own.nil _ _, newB_nil _ _ _, Below.refl _ _⟩
  | some ad =>
    obtain ⟨i0, hi, hz0, hz1, hz2⟩ := info_parts (show (Try.prog.info? 5).map (fun i => (i.zero, i.size, i.bytes)) = some (some (.int .u8 0), 1, 1) by kernel_rfl)
    have hb : Below w.heap.size w (w.alloc (.cells #[] 5)) := Below.alloc (Below.refl _ _) (Nat.le_refl _) _
    obtain ⟨v1, u1, r1, o1, f1, n1⟩ := app_any (P := Try.prog) (w.alloc (.cells #[] 5)) 32 32 32 5 i0 _ Try.underlying32 hi hz0 hz1 hz2 rfl (.slice (some ⟨w.heap.size, 0, none⟩) 0 0) (.slice (some ad) zs.length c) [] zs (ownNew w) ((h.below hb).src Try.underlying32) (by simpa using hn)
    have HB := hide (hb.trans (f1.below (B := w.heap.size) (by simp) (fun k hk hx => by simp [Value.ownBlock] at hx; omega)))
    have HN := hide (show NewB w v1 from fun k hk => by
      rcases n1 k hk with hx | hx
      · simp [Value.ownBlock] at hx
        omega
      · simp at hx
        omega)
    rw [List.nil_append] at o1
    have HO := hide o1
    have hq : ∀ W : World, (binOp .eql 32 (.slice (some ad) zs.length c) (.slice none 0 0)).run Try.prog W = .ok (.bool false) W := fun W => Lib.run_eql_slice_nil W 32 _ _ _ _ _ _ Try.underlying32
    clear hb f1 n1 o1 hz h hc e1 hi hz0 hz1 hz2
    go_enter Try.func106, Try.ntmps106
    go_upto_region 3 with fail
    refine wp_region_lit ?_
    refine sV (.slice (some ⟨w.heap.size, 0, none⟩) 0 0) (w.alloc (.cells #[] 5)) (by kernel_rfl) (by kernel_rfl) ?_
    simp only [Act.put, List.setIfInBounds_toArray, List.set_cons_succ, List.set_cons_zero]
    refine sV (.slice (some ad) zs.length c) (w.alloc (.cells #[] 5)) (by kernel_rfl) (by kernel_rfl) ?_
    simp only [Act.put, List.setIfInBounds_toArray, List.set_cons_succ, List.set_cons_zero]
    refine sA (by kernel_rfl) 32 32 _ _ (by rfl) (.slice (some ⟨w.heap.size, 0, none⟩) 0 0) (.slice (some ad) zs.length c) (by kernel_rfl) (by kernel_rfl) (v1) (u1) r1 ?_
    simp only [Act.put, List.setIfInBounds_toArray, List.set_cons_succ, List.set_cons_zero]
    clear r1 hq
    obtain ⟨a2, c2, e2⟩ := len_of HO.out
    obtain ⟨n2, hn2⟩ : ∃ n2, n2 = zs.length := ⟨_, rfl⟩
    rw [← hn2] at e2
    subst e2
    clear hn2
    go_wp2_with fail
    go_ret
    exact ⟨a2, n2, c2, rfl, HO.out, HN.out, HB.out⟩
theorem done_none (w : World) (p : Option Addr) (h : NoW w p) : Calls Try.prog 27 #[.pointer p] w fun e w' => e = .returned (.tuple #[.slice none 0 0, .int .i64 1]) ∧ w = w' := by
  have H := hide (state_none w p h)
  clear h
  go_enter Try.func27, Try.ntmps27
  go_wp2_with ((go_at_call 105; refine (H.out).mono ?_; rintro e w1 ⟨rfl, rfl⟩))
  go_ret2
  exact ⟨rfl, rfl⟩
theorem done_err (w : World) (W : Nat) (lim : Int) (v : Value) (zs : List Int) (err : Int) (h : WSt w W lim v zs err) (he : err ≠ 0) : Calls Try.prog 27 #[.pointer (some ⟨W, 0, none⟩)] w fun e w' => e = .returned (.tuple #[.slice none 0 0, .int .i64 err]) ∧ w = w' := by
  have H := hide (state_any w W lim v zs err h)
  have hb : (err != 0) = true := by simpa using he
  have hb2 : (err == 0) = false := by simpa using he
  clear h he
  go_enter Try.func27, Try.ntmps27
  go_wp2_with ((go_at_call 105; refine (H.out).mono ?_; rintro e w1 ⟨rfl, rfl⟩))
  go_ret2
  exact ⟨rfl, rfl⟩
theorem done_ok (w : World) (W : Nat) (lim : Int) (v : Value) (zs : List Int) (h : WSt w W lim v zs 0) :
    Calls Try.prog 27 #[.pointer (some ⟨W, 0, none⟩)] w fun e w' => ∃ va vn vc, e = .returned (.tuple #[.slice va vn vc, .int .i64 0]) ∧ Own w' 5 (.slice va vn vc) zs ∧ NewB w (.slice va vn vc) ∧ Below w.heap.size w w' := by
  obtain ⟨va, vc, hv⟩ := len_of h.own
  have c2 : w.cell? ⟨W, 2, none⟩ = some (.slice va zs.length vc) := by rw [h.at'.cell, hv]; rfl
  have H := hide (state_any w W lim v zs 0 h)
  have hx := h.own.bin
  have h1 := h.fits
  have h2 := h.high
  rw [hv] at hx
  have C := hide (clone_any w va zs.length vc zs hx (by omega))
  obtain ⟨k, hk⟩ : ∃ k, k = zs.length := ⟨_, rfl⟩
  rw [← hk] at c2 C
  clear h hx hv hk h1
  go_enter Try.func27, Try.ntmps27
  go_wp2_with (first | ((go_at_call 105; refine (H.out).mono ?_; rintro e w1 ⟨rfl, rfl⟩)) | ((go_at_call 106; refine (C.out).mono ?_; rintro e w2 ⟨xa, xn, xc, rfl, ho, hn, hb⟩; have HO := hide ho; clear ho)))
  go_ret2
  exact ⟨xa, xn, xc, rfl, HO.out, hn, hb⟩
end WirF
end Go.Proofs.Ytplinpbmncccoaa
