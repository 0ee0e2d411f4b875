/-
  Bytes written that may lie anywhere when they are none.
-/
import Derived.Test.YthcemghamdmjmaaPkG
namespace Go.Proofs.Ythcemghamdmjmaa
namespace WirBH
open Go.RowKit FltC Go.Lib
open BlkM WirM WirS WirA WirB WirC WirD WirE WirF WirG WirH WirI WirJ WirK WirL WirN WirO WirP WirQ WirR WirT WirU WirV WirW WirX WirZ WirNA WirRT WirAA
set_option maxHeartbeats 1600000 in
theorem put_ok2 (w : World) (W : Nat) (lim : Int) (v : Value) (zs : List Int) (a b : Option Addr) (n c m d : Nat) (hs bd : List Int) (h : WSt w W lim v zs 0)
    (hx : BIn w (.slice a n c) hs) (hy : BIn w (.slice b m d) bd) (ox : Apart W v (.slice a n c)) (oy : bd ≠ [] → Apart W v (.slice b m d)) (hl : (zs.length : Int) + ((n + m : Nat) : Int) ≤ lim) :
    Calls Try.prog 155 #[.pointer (some ⟨W, 0, none⟩), .slice a n c, .slice b m d] w (Wrote w W lim v (zs ++ (hs ++ bd)) 0) := by
  obtain ⟨va, vc, hv⟩ := len_of h.own
  obtain ⟨_, _, e1, _⟩ := id hx
  obtain ⟨_, _, e2, _⟩ := id hy
  have hnl : n = hs.length := by cases e1; rfl
  have hml : m = bd.length := by cases e2; rfl
  have c1 : w.cell? ⟨W, 1, none⟩ = some (.int .i64 lim) := by rw [h.at'.cell]; rfl
  have c2 : w.cell? ⟨W, 2, none⟩ = some (.slice va zs.length vc) := by rw [h.at'.cell, hv]; rfl
  have hlo := h.low
  have hhi := h.high
  have hfit := h.fits
  have H := hide (state_any w W lim v zs 0 h)
  obtain ⟨k, hk⟩ : ∃ k, k = zs.length := ⟨_, rfl⟩
  have hl0 := hl
  rw [← hk] at c2 hfit hl
  have w1 : IntKind.i64.wrap (↑n + ↑m) = (n : Int) + (m : Int) := IntWalk.i64_in _ (by omega)
  have w2 : IntKind.i64.wrap (lim - ↑k) = lim - (k : Int) := IntWalk.i64_in _ (by omega)
  have w3 : decide (lim - (k : Int) < (n : Int) + (m : Int)) = false := decide_eq_false (by omega)
  obtain ⟨i0, hi, hz0, hz1, hz2⟩ := info_parts (show (Try.prog.info? 5).map (fun i => (i.zero, i.size, i.bytes)) = some (some (.int .u8 0), 1, 1) by kernel_rfl)
  -- what the two appends yield, in whatever world the test is left
  have HA : ∀ q, ∃ v1 u1 v2 u2, (Builtin.append_ #[32, 32] 32 #[v, .slice a n c]).run Try.prog (w.drewN q) = .ok v1 u1 ∧ (Builtin.append_ #[32, 32] 32 #[v1, .slice b m d]).run Try.prog u1 = .ok v2 u2 ∧
      Own u2 5 v2 (zs ++ (hs ++ bd)) ∧ Step w W v u2 v2 ∧ v2.ownBlock ≠ some W ∧ At u2 W 59 (wcells W lim v 0) := fun q => by
    have hd : Fr (Xw W v) w (w.drewN q) := Fr.drewN (Fr.refl _ w) q
    have hd0 : Fr (fun _ => False) w (w.drewN q) := Fr.drewN (Fr.refl _ w) q
    obtain ⟨v1, u1, r1, o1, f1, n1⟩ := app_any (P := Try.prog) (w.drewN q) 32 32 32 5 i0 _ Try.underlying32 hi hz0 hz1 hz2 rfl v (.slice a n c) zs hs (h.own.fr hd0 (fun _ _ h => h)) ((hx.fr hd0 (fun _ _ h => h)).src Try.underlying32) (by omega)
    have hW1 : v1.ownBlock ≠ some W := fun e => by
      rcases n1 W e with e | e
      · exact h.off e
      · have := h.lt
        exact absurd (show w.heap.size ≤ W from e) (by omega)
    have hy1 : BIn u1 (.slice b m d) bd := by
      by_cases hbd : bd = []
      · obtain ⟨b', d', e, hc, _⟩ := hy
        exact ⟨b', d', e, hc, fun h => absurd hbd h⟩
      · exact (hy.fr hd0 (fun _ _ h => h)).fr f1 (fun k hk hx => oy hbd k hk (.inr hx))
    obtain ⟨v2, u2, r2, o2, f2, n2⟩ := app_any (P := Try.prog) u1 32 32 32 5 i0 _ Try.underlying32 hi hz0 hz1 hz2 rfl v1 (.slice b m d) (zs ++ hs) bd o1 (hy1.src Try.underlying32) (by rw [List.length_append]; omega)
    have s1 : Step w W v u1 v1 := ⟨hd.trans (f1.mono fun i _ hi => .inr hi), n1⟩
    have s2 : Step u1 W v1 u2 v2 := ⟨f2.mono fun i _ hi => .inr hi, n2⟩
    have hW2 : v2.ownBlock ≠ some W := fun e => by
      rcases n2 W e with e | e
      · exact hW1 e
      · have := h.lt
        have := s1.1.size
        omega
    refine ⟨v1, u1, v2, u2, r1, r2, by rw [← List.append_assoc]; exact o2, s1.trans s2, hW2, ?_⟩
    exact At.fr (At.fr (At.fr h.at' hd0 (fun h => h)) f1 (fun e => h.off e)) f2 (fun e => hW1 e)
  have HA := hide HA
  have HH := hide h
  have HV := hide hv
  have HK := hide hk
  have HL := hide (show ((zs ++ (hs ++ bd)).length : Int) ≤ lim by simp only [List.length_append]; omega)
  clear hv hk h hx hy ox oy hnl hml e1 e2 hi hz0 hz1 hz2
  go_enter Try.func155, Try.ntmps155
  go_upto_region 4 with ((go_at_call 112; refine (H.out).mono ?_; rintro e w1 ⟨rfl, rfl⟩))
  go_quiet (fail)
  go_upto_region 6 with fail
  rename_i nq _ _
  obtain ⟨v1, u1, v2, u2, r1, r2, own2, st2, off2, at2⟩ := HA.out nq
  have c2' : (w.drewN nq).cell? ⟨W, 2, none⟩ = some v := by rw [HV.out, ← HK.out]; simpa using c2
  have hf := at2.frozen 2
  have hc : u2.cell? ⟨W, 2, none⟩ = some v := by rw [at2.cell]; rfl
  refine wp_region_lit ?_
  refine sV (.pointer (some ⟨W, 0, none⟩)) (w.drewN nq) (by kernel_rfl) (by kernel_rfl) ?_
  simp only [Act.put, List.setIfInBounds_toArray, List.set_cons_succ, List.set_cons_zero]
  refine sV (.pointer (some ⟨W, 0, none⟩)) (w.drewN nq) (by kernel_rfl) (by kernel_rfl) ?_
  simp only [Act.put, List.setIfInBounds_toArray, List.set_cons_succ, List.set_cons_zero]
  refine sV (.pointer (some ⟨W, 0, none⟩)) (w.drewN nq) (by kernel_rfl) (by kernel_rfl) ?_
  simp only [Act.put, List.setIfInBounds_toArray, List.set_cons_succ, List.set_cons_zero]
  refine sV (.pointer (some ⟨W, 2, none⟩)) (w.drewN nq) (by kernel_rfl) (by kernel_rfl) ?_
  simp only [Act.put, List.setIfInBounds_toArray, List.set_cons_succ, List.set_cons_zero]
  refine sP (by kernel_rfl) _ _ (by rfl) ⟨W, 2, none⟩ (by kernel_rfl) (v) c2' (by kernel_rfl) ?_
  simp only [Act.put, List.setIfInBounds_toArray, List.set_cons_succ, List.set_cons_zero]
  refine sV (.slice a n c) (w.drewN nq) (by kernel_rfl) (by kernel_rfl) ?_
  simp only [Act.put, List.setIfInBounds_toArray, List.set_cons_succ, List.set_cons_zero]
  refine sA (by kernel_rfl) 32 32 _ _ (by rfl) (v) (.slice a n c) (by kernel_rfl) (by kernel_rfl) (v1) (u1) r1 ?_
  simp only [Act.put, List.setIfInBounds_toArray, List.set_cons_succ, List.set_cons_zero]
  refine sV (.slice b m d) (u1) (by kernel_rfl) (by kernel_rfl) ?_
  simp only [Act.put, List.setIfInBounds_toArray, List.set_cons_succ, List.set_cons_zero]
  refine sA (by kernel_rfl) 32 32 _ _ (by rfl) (v1) (.slice b m d) (by kernel_rfl) (by kernel_rfl) (v2) (u2) r2 ?_
  simp only [Act.put, List.setIfInBounds_toArray, List.set_cons_succ, List.set_cons_zero]
  clear c2' r1 r2
  obtain ⟨a2, c2, e2⟩ := len_of own2
  obtain ⟨n2, hn2⟩ : ∃ n2, n2 = (zs ++ (hs ++ bd)).length := ⟨_, rfl⟩
  rw [← hn2] at e2
  subst e2
  clear hn2
  go_wp2_with fail
  go_ret
  have h := HH.out
  refine ⟨rfl, _, ⟨at2.setCell 2 _, own2.fr (X := fun k => k = W) ((Fr.refl _ u2).setCell W 2 _ (fun _ => rfl)) (fun k hk hx => off2 (by rw [hk, hx])), off2, h.low, h.high, ?_⟩, st2.1.setCell W 2 _ (fun _ => .inl rfl), st2.2⟩
  exact HL.out
theorem put_any2 (w : World) (W : Nat) (lim : Int) (v : Value) (zs : List Int) (err : Int) (a b : Option Addr) (n c m d : Nat) (hs bd : List Int) (h : WSt w W lim v zs err)
    (hx : BIn w (.slice a n c) hs) (hy : BIn w (.slice b m d) bd) (ox : Apart W v (.slice a n c)) (oy : bd ≠ [] → Apart W v (.slice b m d)) (hn : n ≤ 1099511627776) (hm : m ≤ 1099511627776) :
    Calls Try.prog 155 #[.pointer (some ⟨W, 0, none⟩), .slice a n c, .slice b m d] w (Wrote w W lim v (putZ lim err zs (hs ++ bd)) (putE lim err zs (hs ++ bd).length)) := by
  obtain ⟨_, _, e1, _⟩ := id hx
  obtain ⟨_, _, e2, _⟩ := id hy
  have hnl : n = hs.length := by cases e1; rfl
  have hml : m = bd.length := by cases e2; rfl
  have hl : (hs ++ bd).length = n + m := by rw [List.length_append, hnl, hml]
  unfold putZ
  rw [hl]
  unfold putE
  by_cases he : err = 0
  · subst he
    simp only [ne_eq, not_true_eq_false, if_false]
    by_cases hlim : lim < (zs.length : Int) + ((n + m : Nat) : Int)
    · rw [if_pos hlim]
      rw [if_neg (by decide)]
      exact put_long w W lim v zs a b n c m d h hn hm hlim
    · rw [if_neg hlim]
      rw [if_pos rfl]
      exact put_ok2 w W lim v zs a b n c m d hs bd h hx hy ox oy (by omega)
  · rw [if_pos he, if_neg he]
    exact (put_err w W lim v zs err a b n c m d h he).mono fun e w' ⟨h1, h2⟩ => by subst h2; exact ⟨h1, v, h, Step.refl _ _ _⟩
theorem put_after2 (w W1 : World) (W : Nat) (lim : Int) (v : Value) (zs : List Int) (err : Int) (a b : Option Addr) (n c m d : Nat) (hs bd : List Int) (hb : Below w.heap.size w W1) (h : WSt w W lim v zs err)
    (hx : BIn W1 (.slice a n c) hs) (hy : BIn W1 (.slice b m d) bd) (ox : NewB w (.slice a n c)) (oy : bd ≠ [] → Apart W v (.slice b m d)) (hn : n ≤ 1099511627776) (hm : m ≤ 1099511627776) :
    Calls Try.prog 155 #[.pointer (some ⟨W, 0, none⟩), .slice a n c, .slice b m d] W1 (Wrote w W lim v (putZ lim err zs (hs ++ bd)) (putE lim err zs (hs ++ bd).length)) := by
  have hlt := h.lt
  have hol := h.own.lt
  have new : ∀ x, NewB w x → Apart W v x := fun x hx k hk hX => by
    have := hx k hk
    rcases hX with rfl | hX
    · omega
    · have := hol k hX
      omega
  refine (put_any2 W1 W lim v zs err a b n c m d hs bd (h.below hb) hx hy (new _ ox) oy hn hm).mono fun e w' h => Wrote.pre hb h
theorem bytes_any2 (w : World) (W : Nat) (lim : Int) (v : Value) (zs : List Int) (err : Int) (a : Option Addr) (m c : Nat) (bd : List Int) (hb : BIn w (.slice a m c) bd) (ho : bd ≠ [] → Apart W v (.slice a m c)) (hm : m ≤ 1099511627776) (h : WSt w W lim v zs err) :
    Calls Try.prog 99 #[.pointer (some ⟨W, 0, none⟩), .slice a m c] w (Wrote w W lim v (putZ lim err zs (numB m ++ bd)) (putE lim err zs (numB m ++ bd).length)) := by
  have C := hide (number_any w m (by omega) (by omega))
  have hk := nb_le m (by omega)
  have H := hide (fun W1 (hb1 : Below w.heap.size w W1) F (hF : w.heap.size ≤ F) (hx : BIn W1 (.slice (some ⟨F, 0, none⟩) (nb m + 1) 9) (numB m)) => put_after2 w W1 W lim v zs err (some ⟨F, 0, none⟩) a (nb m + 1) 9 m c (numB m) bd hb1 h hx (hb.below hb1) (newB_at w F 0 _ _ hF) ho (by omega) hm)
  generalize putE lim err zs (numB m ++ bd).length = E at H ⊢
  generalize putZ lim err zs (numB m ++ bd) = Z at H ⊢
  clear h hk hb ho
  go_enter Try.func99, Try.ntmps99
  go_wp2_with (first | ((go_at_call 156; refine (C.out).mono ?_; rintro e w1 ⟨F, rfl, hF, hx, hb⟩; have HX := hide hx; clear hx)) | ((go_at_call 155; refine (H.out _ hb _ hF HX.out).mono ?_; rintro e w2 ⟨rfl, hs⟩; have HS := hide hs; clear hs)))
  go_ret
  exact ⟨rfl, HS.out⟩
theorem puts_bag2 (w0 w : World) (l : List Thg) (W : Nat) (lim : Int) (v : Value) (ys : List Int) (t : Td) (va : Option Addr) (vn vc : Nat) (zs : List Int) (h : Bag w0 w (wtr W lim v ys 0 :: l)) (hk : 0 ≤ t.kd ∧ t.kd ≤ 7) (hn : t.kd = 0 → 0 ≤ t.n)
    (ht : Wf w t va vn vc zs) (hap : zs ≠ [] → Apart W v (.slice va vn vc)) (hs : zs.length ≤ 1099511627776) (hl : ((ys.length + (form t zs).length : Nat) : Int) ≤ lim) :
    Calls Try.prog 23 #[.pointer (some ⟨W, 0, none⟩), .agg t.cells.toArray] w (Ans 0 (Put w0 l W lim (ys ++ form t zs))) := by
  have hb := PW_below w t
  have hB := h.more hb
  have hl' : ∀ news : List Int, news = form t zs → putE lim 0 ys news.length = 0 ∧ putZ lim 0 ys news = ys ++ news := fun news e => by
    subst e
    have : putE lim 0 ys (form t zs).length = 0 := by
      unfold putE
      rw [if_neg (by simp), if_neg (by omega)]
    exact ⟨this, by unfold putZ; rw [if_pos this]⟩
  have fin : ∀ {f : FuncId} {args : Array Value} (news : List Int), news = form t zs → Calls Try.prog f args (PW w t) (Wrote (PW w t) W lim v (putZ lim 0 ys news) (putE lim 0 ys news.length)) → Calls Try.prog f args (PW w t) (Ans 0 (Put w0 l W lim (ys ++ form t zs))) := fun news e C => by
    obtain ⟨h1, h2⟩ := hl' news e
    rw [h1, h2] at C
    subst e
    exact (bw_of hB C).mono fun _ _ hh => hh
  have hlen := ht.len
  have ht' := ht.more hb (Below.refl _ _)
  obtain ⟨x, hx⟩ := Int.eq_ofNat_of_zero_le ht.u0
  have hu1 := ht.u1
  have hn1 := ht.n1
  obtain k | k | k | k | k | k | k | k : t.kd = 0 ∨ t.kd = 1 ∨ t.kd = 2 ∨ t.kd = 3 ∨ t.kd = 4 ∨ t.kd = 5 ∨ t.kd = 6 ∨ t.kd = 7 := by omega
  · exact puts0 w _ t va vn vc ht.hv k _ _ (fin (numB t.n) (by simp [form, k]) (num_any _ W lim v ys 0 t.n (hn k) (by omega) hB.head))
  · exact puts1 w _ t va vn vc ht.hv zs ht.bin k _ _ (fin (numB (st zs).size ++ tb (st zs)) (by simp [form, k, st_size, tb_st zs ht.rz]) (text_any _ W lim v ys 0 (st zs) (by rw [st_size]; omega) hB.head))
  · exact puts2 w _ t va vn vc ht.hv k _ _ (fin (numB vn ++ zs) (by simp [form, k, hlen]) (bytes_any2 _ W lim v ys 0 va vn vc zs ht'.bin hap (by omega) hB.head))
  · exact puts3 w _ t k _ _ (fin t.h (by simp [form, k]) (hash_any _ W lim v ys 0 t.h t.lh hB.head))
  · exact puts4 w _ t k _ _ (fin t.k (by simp [form, k]) (key_any _ W lim v ys 0 t.k t.lk hB.head))
  · exact puts5 w _ t va vn vc ht.hv k _ _ (fin (wordB t.u) (by simp [form, k]) (WirF.word_any _ W lim v ys 0 t.u ht.u0 ht.u1 hB.head))
  · exact puts6 w _ t x hx k _ _ (fin (wordB (canon x : Int)) (by simp [form, k, hx]) (wpace_any _ W lim v ys 0 x (by omega) hB.head))
  · exact puts7 w _ t va vn vc ht.hv k _ _ (fin (boolB t.is) (by simp [form, k]) (bool_any _ W lim v ys 0 t.is hB.head))
end WirBH
end Go.Proofs.Ythcemghamdmjmaa
