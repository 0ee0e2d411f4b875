/-
  The program's writer: Num, Text, Bytes, Hash, Key, Word, Bool, Done, NewWriter.
-/
import Derived.Test.YtplinpbmncccoaaWirD
import Derived.Lib.ConvBytes
namespace Go.Proofs.Ytplinpbmncccoaa
namespace WirE
open Go.RowKit
open BlkM WirM WirS WirA WirB WirC WirD

/-- The bytes of a text. -/
def tb (s : ByteArray) : List Int := s.data.toList.map fun b => (b.toNat : Int)
theorem tb_len (s : ByteArray) : (tb s).length = s.size := by simp [tb]
def NewB (w : World) (x : Value) : Prop := ∀ k, x.ownBlock = some k → w.heap.size ≤ k
theorem put_any (w : World) (W : Nat) (lim : Int) (v : Value) (zs : List Int) (err : Int) (a b : Option Addr) (n c m d : Nat) (hs bd : List Int) (h : WSt w W lim v zs err)
    (hx : BIn w (.slice a n c) hs) (hy : BIn w (.slice b m d) bd) (ox : Apart W v (.slice a n c)) (oy : Apart W v (.slice b m d)) (hn : n ≤ 1099511627776) (hm : m ≤ 1099511627776) :
    Calls Try.prog 148 #[.pointer (some ⟨W, 0, none⟩), .slice a n c, .slice b m d] w (Wrote w W lim v (putZ lim err zs (hs ++ bd)) (putE lim err zs (hs ++ bd).length)) := by
  obtain ⟨_, _, e1, _⟩ := id hx
  obtain ⟨_, _, e2, _⟩ := id hy
  have hnl : n = hs.length := by cases e1; rfl
  have hml : m = bd.length := by cases e2; rfl
  have hl : (hs ++ bd).length = n + m := by rw [List.length_append, hnl, hml]
  unfold putZ
  rw [hl]
  unfold putE
  by_cases he : err = 0
  · subst he
    simp only [ne_eq, not_true_eq_false, if_false]
    by_cases hlim : lim < (zs.length : Int) + ((n + m : Nat) : Int)
    · rw [if_pos hlim]
      rw [if_neg (by decide)]
      exact put_long w W lim v zs a b n c m d h hn hm hlim
    · rw [if_neg hlim]
      rw [if_pos rfl]
      exact put_ok w W lim v zs a b n c m d hs bd h hx hy ox oy (by omega)
  · rw [if_pos he, if_neg he]
    exact (put_err w W lim v zs err a b n c m d h he).mono fun e w' ⟨h1, h2⟩ => by subst h2; exact ⟨h1, v, h, Step.refl _ _ _⟩
/-- put, behind what only makes memory. -/
theorem put_after (w W1 : World) (W : Nat) (lim : Int) (v : Value) (zs : List Int) (err : Int) (a b : Option Addr) (n c m d : Nat) (hs bd : List Int) (hb : Below w.heap.size w W1) (h : WSt w W lim v zs err)
    (hx : BIn W1 (.slice a n c) hs) (hy : BIn W1 (.slice b m d) bd) (ox : NewB w (.slice a n c)) (oy : NewB w (.slice b m d) ∨ Apart W v (.slice b m d)) (hn : n ≤ 1099511627776) (hm : m ≤ 1099511627776) :
    Calls Try.prog 148 #[.pointer (some ⟨W, 0, none⟩), .slice a n c, .slice b m d] W1 (Wrote w W lim v (putZ lim err zs (hs ++ bd)) (putE lim err zs (hs ++ bd).length)) := by
  have hlt := h.lt
  have hol := h.own.lt
  have new : ∀ x, NewB w x → Apart W v x := fun x hx k hk hX => by
    have := hx k hk
    rcases hX with rfl | hX
    · omega
    · have := hol k hX
      omega
  refine (put_any W1 W lim v zs err a b n c m d hs bd (h.below hb) hx hy (new _ ox) (oy.elim (new _) id) hn hm).mono fun e w' h => Wrote.pre hb h
theorem BIn_nil (w : World) : BIn w (.slice none 0 0) [] := BIn.nil w
theorem newB_nil (w : World) (n c : Nat) : NewB w (.slice none n c) := fun k hk => by simp [Value.ownBlock] at hk
theorem newB_at (w : World) (F o n c : Nat) (h : w.heap.size ≤ F) : NewB w (.slice (some ⟨F, o, none⟩) n c) := fun k hk => by
  simp [Value.ownBlock] at hk
  omega

/-! ### Num -/
theorem num_none (w : World) (p : Option Addr) (n : Int) (h0 : -9223372036854775808 ≤ n) (h1 : n < 9223372036854775808) (h : NoW w p) (hp : ∀ S, p = some ⟨S, 0, none⟩ → S < w.heap.size) : Calls Try.prog 45 #[.pointer p, .int .i64 n] w fun e w' => e = .returned (.int .i64 1) ∧ Below w.heap.size w w' := by
  by_cases hn : n < 0
  · have H := hide (fail_none w p 3 h)
    clear h
    go_enter Try.func45, Try.ntmps45
    go_wp2_with ((go_at_call 147; refine (H.out).mono ?_; rintro e w1 ⟨rfl, rfl⟩))
    go_ret
    exact ⟨rfl, Below.refl _ _⟩
  · have H := hide (fun W1 (hb : Below w.heap.size w W1) F c => put_none W1 p F none (nb n + 1) c 0 0 (by
      rcases h with rfl | ⟨S, rfl, hc⟩
      · exact .inl rfl
      · exact .inr ⟨S, rfl, (hb.cell (hp S rfl)).trans hc⟩))
    have C := hide (number_any w n (by omega) h1)
    clear h hp
    go_enter Try.func45, Try.ntmps45
    go_wp2_with (first | ((go_at_call 149; refine (C.out).mono ?_; rintro e w1 ⟨F, rfl, hF, hx, hb⟩; have HX := hide hx; clear hx)) | ((go_at_call 148; refine (H.out _ hb _ _).mono ?_; rintro e w2 ⟨rfl, rfl⟩)))
    go_ret
    exact ⟨rfl, hb⟩
theorem num_neg (w : World) (W : Nat) (lim : Int) (v : Value) (zs : List Int) (err n : Int) (hn : n < 0) (h : WSt w W lim v zs err) :
    Calls Try.prog 45 #[.pointer (some ⟨W, 0, none⟩), .int .i64 n] w (Wrote w W lim v zs (if err ≠ 0 then err else 3)) := by
  have H := hide (fail_any w W lim v zs err 3 h)
  generalize (if err ≠ 0 then err else (3 : Int)) = E at H ⊢
  clear h
  go_enter Try.func45, Try.ntmps45
  go_wp2_with ((go_at_call 147; refine (H.out).mono ?_; rintro e w1 ⟨rfl, hs⟩; have HS := hide hs; clear hs))
  go_ret
  exact ⟨rfl, HS.out⟩
theorem num_any (w : World) (W : Nat) (lim : Int) (v : Value) (zs : List Int) (err n : Int) (hn : 0 ≤ n) (h1 : n < 9223372036854775808) (h : WSt w W lim v zs err) :
    Calls Try.prog 45 #[.pointer (some ⟨W, 0, none⟩), .int .i64 n] w (Wrote w W lim v (putZ lim err zs (numB n)) (putE lim err zs (numB n).length)) := by
  have C := hide (number_any w n hn h1)
  have hk := nb_le n (by omega)
  have H := hide (fun W1 (hb : Below w.heap.size w W1) F (hF : w.heap.size ≤ F) (hx : BIn W1 (.slice (some ⟨F, 0, none⟩) (nb n + 1) 9) (numB n)) => put_after w W1 W lim v zs err (some ⟨F, 0, none⟩) none (nb n + 1) 9 0 0 (numB n) [] hb h hx (BIn.nil W1) (newB_at w F 0 _ _ hF) (.inl (newB_nil w 0 0)) (by omega) (by omega))
  rw [List.append_nil] at H
  have hn0 : ¬ n < 0 := by omega
  generalize putE lim err zs (numB n).length = E at H ⊢
  generalize putZ lim err zs (numB n) = Z at H ⊢
  clear h hk
  go_enter Try.func45, Try.ntmps45
  go_wp2_with (first | ((go_at_call 149; refine (C.out).mono ?_; rintro e w1 ⟨F, rfl, hF, hx, hb⟩; have HX := hide hx; clear hx)) | ((go_at_call 148; refine (H.out _ hb _ hF HX.out).mono ?_; rintro e w2 ⟨rfl, hs⟩; have HS := hide hs; clear hs)))
  go_ret
  exact ⟨rfl, HS.out⟩
/-! ### Bytes -/
theorem bytes_any (w : World) (W : Nat) (lim : Int) (v : Value) (zs : List Int) (err : Int) (a : Option Addr) (m c : Nat) (bd : List Int) (hb : BIn w (.slice a m c) bd) (ho : Apart W v (.slice a m c)) (hm : m ≤ 1099511627776) (h : WSt w W lim v zs err) :
    Calls Try.prog 92 #[.pointer (some ⟨W, 0, none⟩), .slice a m c] w (Wrote w W lim v (putZ lim err zs (numB m ++ bd)) (putE lim err zs (numB m ++ bd).length)) := by
  have C := hide (number_any w m (by omega) (by omega))
  have hk := nb_le m (by omega)
  have H := hide (fun W1 (hb1 : Below w.heap.size w W1) F (hF : w.heap.size ≤ F) (hx : BIn W1 (.slice (some ⟨F, 0, none⟩) (nb m + 1) 9) (numB m)) => put_after w W1 W lim v zs err (some ⟨F, 0, none⟩) a (nb m + 1) 9 m c (numB m) bd hb1 h hx (hb.below hb1) (newB_at w F 0 _ _ hF) (.inr ho) (by omega) hm)
  generalize putE lim err zs (numB m ++ bd).length = E at H ⊢
  generalize putZ lim err zs (numB m ++ bd) = Z at H ⊢
  clear h hk hb ho
  go_enter Try.func92, Try.ntmps92
  go_wp2_with (first | ((go_at_call 149; refine (C.out).mono ?_; rintro e w1 ⟨F, rfl, hF, hx, hb⟩; have HX := hide hx; clear hx)) | ((go_at_call 148; refine (H.out _ hb _ hF HX.out).mono ?_; rintro e w2 ⟨rfl, hs⟩; have HS := hide hs; clear hs)))
  go_ret
  exact ⟨rfl, HS.out⟩
/-! ### Text -/
theorem below_bw (w : World) (s : ByteArray) : Below w.heap.size w (Lib.bytesWorld w 5 s) := by
  refine ⟨rfl, rfl, rfl, ?_, fun k hk => Lib.bytesWorld_at_old w _ s k hk⟩
  have := (Array.getElem?_eq_some_iff.1 (Lib.bytesWorld_at_new w 5 s)).1
  omega
theorem bin_bw (w : World) (s : ByteArray) (c : Nat) (hc : s.size ≤ c) : BIn (Lib.bytesWorld w 5 s) (.slice (some ⟨w.heap.size, 0, none⟩) s.size c) (tb s) := by
  have hn := Lib.bytesWorld_at_new w 5 s
  refine ⟨_, c, by rw [tb_len], by rw [tb_len]; exact hc, fun _ => ⟨w.heap.size, 0, rfl, (Array.getElem?_eq_some_iff.1 hn).1, fun i hi => ?_⟩⟩
  rw [tb_len] at hi
  simp only [World.cell?, hn, Nat.zero_add]
  simp [Lib.bytesCells, tb, Array.getElem?_append, hi]
theorem text_any (w : World) (W : Nat) (lim : Int) (v : Value) (zs : List Int) (err : Int) (s : ByteArray) (hm : s.size ≤ 1099511627776) (h : WSt w W lim v zs err) :
    Calls Try.prog 88 #[.pointer (some ⟨W, 0, none⟩), .string s] w (Wrote w W lim v (putZ lim err zs (numB s.size ++ tb s)) (putE lim err zs (numB s.size ++ tb s).length)) := by
  have C := hide (number_any w s.size (by omega) (by omega))
  have hk := nb_le s.size (by omega)
  have hcv := fun W1 => Lib.run_convert_string_bytes (P := Try.prog) W1 9 32 5 s Try.underlying9 Try.underlying32 Try.underlying5
  have H := hide (fun W1 (hb1 : Below w.heap.size w W1) F (hF : w.heap.size ≤ F) (hx : BIn W1 (.slice (some ⟨F, 0, none⟩) (nb s.size + 1) 9) (numB s.size)) => put_after w (Lib.bytesWorld W1 5 s) W lim v zs err (some ⟨F, 0, none⟩) (some ⟨W1.heap.size, 0, none⟩) (nb s.size + 1) 9 s.size (grownCap W1 s.size 0 5) (numB s.size) (tb s) (hb1.trans ((below_bw W1 s).mono hb1.size)) h (hx.below (below_bw W1 s)) (bin_bw W1 s _ (grownCap_ge W1 s.size 0 5)) (newB_at w F 0 _ _ hF) (.inl (newB_at w _ 0 _ _ hb1.size)) (by omega) hm)
  have hm2 : s.size ≤ 9223372036854775807 := by omega
  generalize putE lim err zs (numB s.size ++ tb s).length = E at H ⊢
  generalize putZ lim err zs (numB s.size ++ tb s) = Z at H ⊢
  clear h hk
  go_enter Try.func88, Try.ntmps88
  go_wp2_with (first | ((go_at_call 149; refine (C.out).mono ?_; rintro e w1 ⟨F, rfl, hF, hx, hb⟩; have HX := hide hx; clear hx)) | ((go_at_call 148; refine (H.out _ hb _ hF HX.out).mono ?_; rintro e w2 ⟨rfl, hs⟩; have HS := hide hs; clear hs)))
  go_ret
  exact ⟨rfl, HS.out⟩
end WirE
end Go.Proofs.Ytplinpbmncccoaa
