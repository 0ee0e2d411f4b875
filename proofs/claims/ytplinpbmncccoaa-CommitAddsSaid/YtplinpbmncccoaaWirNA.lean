/-
  Writers that nobody made: what their calls answer.
-/
import Derived.Test.YtplinpbmncccoaaWirZ
namespace Go.Proofs.Ytplinpbmncccoaa
namespace WirNA
open Go.RowKit PaceA FltC
open BlkM WirM WirS WirA WirB WirC WirD WirE WirF WirG WirH WirI WirJ WirK WirL WirN WirO WirP WirQ WirR WirT WirU WirV WirW WirX WirZ

theorem noW_below {w w' : World} {p : Option Addr} (h : NoW w p) (hp : ∀ S, p = some ⟨S, 0, none⟩ → S < w.heap.size) (hb : Below w.heap.size w w') : NoW w' p := by
  rcases h with rfl | ⟨S, rfl, hc⟩
  · exact .inl rfl
  · exact .inr ⟨S, rfl, (hb.cell (hp S rfl)).trans hc⟩
def Ans1 (w : World) : Ending → World → Prop := fun e w' => e = .returned (.int .i64 1) ∧ Below w.heap.size w w'
theorem putn (w W1 : World) (p : Option Addr) (a b : Option Addr) (n c m d : Nat) (h : NoW w p) (hp : ∀ S, p = some ⟨S, 0, none⟩ → S < w.heap.size) (hb : Below w.heap.size w W1) : Calls Try.prog 148 #[.pointer p, .slice a n c, .slice b m d] W1 (Ans1 w) :=
  (put_none W1 p a b n c m d (noW_below h hp hb)).mono fun _ _ ⟨h1, h2⟩ => by subst h2; exact ⟨h1, hb⟩
theorem nbytes (w : World) (p : Option Addr) (a : Option Addr) (m c : Nat) (hm : m ≤ 1099511627776) (h : NoW w p) (hp : ∀ S, p = some ⟨S, 0, none⟩ → S < w.heap.size) : Calls Try.prog 92 #[.pointer p, .slice a m c] w (Ans1 w) := by
  have C := WirS.hide (number_any w m (by omega) (by omega))
  have H := WirS.hide (fun W1 (hb1 : Below w.heap.size w W1) F => putn w W1 p (some ⟨F, 0, none⟩) a (nb m + 1) 9 m c h hp hb1)
  clear h hp
  go_enter Try.func92, Try.ntmps92
  go_wp2_with (first | ((go_at_call 149; refine (C.out).mono ?_; rintro e w1 ⟨F, rfl, hF, hx, hb⟩; have HX := WirS.hide hx; clear hx)) | ((go_at_call 148; refine (H.out _ hb _).mono ?_; rintro e w2 ⟨rfl, hs⟩; have HS := WirS.hide hs; clear hs)))
  go_ret
  exact ⟨rfl, HS.out⟩
theorem ntext (w : World) (p : Option Addr) (s : ByteArray) (hm : s.size ≤ 1099511627776) (h : NoW w p) (hp : ∀ S, p = some ⟨S, 0, none⟩ → S < w.heap.size) : Calls Try.prog 88 #[.pointer p, .string s] w (Ans1 w) := by
  have C := WirS.hide (number_any w s.size (by omega) (by omega))
  have hcv := fun W1 => Lib.run_convert_string_bytes (P := Try.prog) W1 9 32 5 s Try.underlying9 Try.underlying32 Try.underlying5
  have H := WirS.hide (fun W1 (hb1 : Below w.heap.size w W1) F => putn w (Lib.bytesWorld W1 5 s) p (some ⟨F, 0, none⟩) (some ⟨W1.heap.size, 0, none⟩) (nb s.size + 1) 9 s.size (grownCap W1 s.size 0 5) h hp (hb1.trans ((below_bw W1 s).mono hb1.size)))
  have hm2 : s.size ≤ 9223372036854775807 := by omega
  clear h hp
  go_enter Try.func88, Try.ntmps88
  go_wp2_with (first | ((go_at_call 149; refine (C.out).mono ?_; rintro e w1 ⟨F, rfl, hF, hx, hb⟩; have HX := WirS.hide hx; clear hx)) | ((go_at_call 148; refine (H.out _ hb _).mono ?_; rintro e w2 ⟨rfl, hs⟩; have HS := WirS.hide hs; clear hs)))
  go_ret
  exact ⟨rfl, HS.out⟩
theorem nhash (w : World) (p : Option Addr) (l : List Int) (h : NoW w p) (hp : ∀ S, p = some ⟨S, 0, none⟩ → S < w.heap.size) : Calls Try.prog 93 #[.pointer p, .agg (b8 l).toArray] w (Ans1 w) := by
  have H := WirS.hide (putn w (w.alloc (.cells (b8 l).toArray 34)) p (some ⟨w.heap.size, 0, none⟩) none 32 32 0 0 h hp (Below.alloc (Below.refl _ _) (Nat.le_refl _) _))
  clear h hp
  go_enter Try.func93, Try.ntmps93
  go_wp2_with ((go_at_call 148; refine (H.out).mono ?_; rintro e w2 ⟨rfl, hs⟩; have HS := WirS.hide hs; clear hs))
  go_ret
  exact ⟨rfl, HS.out⟩
theorem nkey (w : World) (p : Option Addr) (l : List Int) (h : NoW w p) (hp : ∀ S, p = some ⟨S, 0, none⟩ → S < w.heap.size) : Calls Try.prog 94 #[.pointer p, .agg (b8 l).toArray] w (Ans1 w) := by
  have H := WirS.hide (putn w (w.alloc (.cells (b8 l).toArray 36)) p (some ⟨w.heap.size, 0, none⟩) none 4 4 0 0 h hp (Below.alloc (Below.refl _ _) (Nat.le_refl _) _))
  clear h hp
  go_enter Try.func94, Try.ntmps94
  go_wp2_with ((go_at_call 148; refine (H.out).mono ?_; rintro e w2 ⟨rfl, hs⟩; have HS := WirS.hide hs; clear hs))
  go_ret
  exact ⟨rfl, HS.out⟩
theorem nbool (w : World) (p : Option Addr) (b : Bool) (h : NoW w p) (hp : ∀ S, p = some ⟨S, 0, none⟩ → S < w.heap.size) : Calls Try.prog 90 #[.pointer p, .bool b] w (Ans1 w) := by
  have H := WirS.hide (fun l : List Int => putn w (w.alloc (.cells (b8 l).toArray 198)) p (some ⟨w.heap.size, 0, none⟩) none 1 1 0 0 h hp (Below.alloc (Below.refl _ _) (Nat.le_refl _) _))
  have H1 := WirS.hide (H.out (boolB b))
  clear h hp H
  cases b
  all_goals
    go_enter Try.func90, Try.ntmps90
    go_wp2_with ((go_at_call 148; refine (H1.out).mono ?_; rintro e w2 ⟨rfl, hs⟩; have HS := WirS.hide hs; clear hs))
    go_ret
    exact ⟨rfl, HS.out⟩
set_option maxHeartbeats 1000000 in
theorem nword (w : World) (p : Option Addr) (n : Int) (h0 : 0 ≤ n) (h1 : n < 18446744073709551616) (h : NoW w p) (hp : ∀ S, p = some ⟨S, 0, none⟩ → S < w.heap.size) : Calls Try.prog 89 #[.pointer p, .int .u64 n] w (Ans1 w) := by
  have C := WirS.hide (counted_any w n 8 (by omega) h0 h1)
  have HH := WirS.hide (fun W1 F (hb : Below w.heap.size w W1) => putn w W1 p (some ⟨F, 1, none⟩) none 8 8 0 0 h hp hb)
  have hs := sl9l
  clear h hp
  go_enter Try.func89, Try.ntmps89
  go_upto_region 1 with fail
  refine wp_region_lit ?_
  refine sV (.int .u64 n) (w) (by kernel_rfl) (by kernel_rfl) ?_
  simp only [Act.put, List.setIfInBounds_toArray, List.set_cons_succ, List.set_cons_zero]
  refine sC (by kernel_rfl) (by kernel_rfl) C.out ?_
  rintro w2 hb2
  simp only [Act.put, List.setIfInBounds_toArray, List.set_cons_succ, List.set_cons_zero]
  obtain ⟨F, hF⟩ : ∃ F, F = w2.heap.size := ⟨_, rfl⟩
  refine sV (.pointer (some ⟨w2.heap.size, 0, none⟩)) (w2.alloc (.cells (b8 z9).toArray 196)) (by kernel_rfl) (al9 _ _ rfl w2) ?_
  simp only [Act.put, List.setIfInBounds_toArray, List.set_cons_succ, List.set_cons_zero]
  refine stepStore (by rfl) _ _ _ (by rfl) _ (b8 (cp n 8 8)) (by kernel_rfl) (by kernel_rfl) (At.new w2 196 (b8 z9)) 9 (by kernel_rfl) (by rw [b8_len]; rfl) (by rw [b8_len, cp_len]) (all_oneCell_toArray (one_b8 _)) ?_
  obtain ⟨W3, eW⟩ : ∃ X, X = (w2.alloc (.cells (b8 z9).toArray 196)).setRow w2.heap.size (b8 (cp n 8 8)).toArray := ⟨_, rfl⟩
  have hB : Below w2.heap.size w2 W3 := by rw [eW]; exact Below.setRowOwn (Below.alloc (Below.refl _ _) (Nat.le_refl _) _) (Nat.le_refl _) _
  rw [← eW, ← hF]
  have K := WirS.hide (HH.out W3 F (hb2.trans (hB.mono hb2.size)))
  have hs := hs F
  clear eW hB hF hb2 C HH
  go_wp2_with ((go_at_call 148; refine (K.out).mono ?_; rintro e w4 ⟨rfl, hs⟩; have HS := WirS.hide hs; clear hs))
  go_ret
  exact ⟨rfl, HS.out⟩
theorem npace (w : World) (p : Option Addr) (x : Nat) (hx : x < 18446744073709551616) (h : NoW w p) (hp : ∀ S, p = some ⟨S, 0, none⟩ → S < w.heap.size) : Calls Try.prog 95 #[.pointer p, .float .f64 x] w (Ans1 w) := by
  have hc := canon_lt hx
  have H := WirS.hide (nword w p (canon x : Int) (by omega) (by omega) h hp)
  have C := WirS.hide (fun W => bits_any x W)
  clear h hp
  go_enter Try.func95, Try.ntmps95
  go_wp2_with (first | ((go_at_call 174; refine (C.out _).mono ?_; rintro e w1 ⟨rfl, rfl⟩)) | ((go_at_call 89; refine (H.out).mono ?_; rintro e w1 ⟨rfl, hs⟩; have HS := WirS.hide hs; clear hs)))
  go_ret
  exact ⟨rfl, HS.out⟩
/-- A thing, as it comes in. -/
structure Wf (w : World) (t : Td) (va : Option Addr) (vn vc : Nat) (zs : List Int) : Prop where
  hv : t.v = .slice va vn vc
  bin : BIn w (.slice va vn vc) zs
  rz : ∀ x ∈ zs, 0 ≤ x ∧ x < 256
  n0 : -9223372036854775808 ≤ t.n
  n1 : t.n ≤ 9223372036854775807
  u0 : 0 ≤ t.u
  u1 : t.u < 18446744073709551616
theorem Wf.len {w : World} {t : Td} {va : Option Addr} {vn vc : Nat} {zs : List Int} (h : Wf w t va vn vc zs) : vn = zs.length := by
  obtain ⟨_, _, e, _⟩ := h.bin
  cases e
  rfl
theorem Wf.more {w W U : World} {t : Td} {va : Option Addr} {vn vc : Nat} {zs : List Int} (h : Wf w t va vn vc zs) (hU : Below W.heap.size W U) (hW : Below w.heap.size w W) : Wf U t va vn vc zs :=
  ⟨h.hv, h.bin.below (hW.trans (hU.mono hW.size)), h.rz, h.n0, h.n1, h.u0, h.u1⟩
theorem st_size (zs : List Int) : (st zs).size = zs.length := by
  show (strOfNums zs).data.size = _
  simp [strOfNums]
theorem puts_none (w : World) (p : Option Addr) (t : Td) (va : Option Addr) (vn vc : Nat) (zs : List Int) (ht : Wf w t va vn vc zs) (hn : vn ≤ 1099511627776) (h : NoW w p) (hp : ∀ S, p = some ⟨S, 0, none⟩ → S < w.heap.size) (hk : 0 ≤ t.kd ∧ t.kd ≤ 7) :
    Calls Try.prog 23 #[.pointer p, .agg t.cells.toArray] w (Ans1 w) := by
  have hb := PW_below w t
  have h' := noW_below h hp hb
  have hp' : ∀ S, p = some ⟨S, 0, none⟩ → S < (PW w t).heap.size := fun S hS => Nat.lt_of_lt_of_le (hp S hS) hb.size
  have back : ∀ f args, Calls Try.prog f args (PW w t) (Ans1 (PW w t)) → Calls Try.prog f args (PW w t) (Ans 1 (Below w.heap.size w)) := fun f args hc => hc.mono fun _ _ ⟨h1, h2⟩ => ⟨h1, hb.trans (h2.mono hb.size)⟩
  have hl := ht.len
  obtain ⟨x, hx⟩ := Int.eq_ofNat_of_zero_le ht.u0
  have hu1 := ht.u1
  have hn0 := ht.n0
  have hn1 := ht.n1
  obtain h | h | h | h | h | h | h | h : t.kd = 0 ∨ t.kd = 1 ∨ t.kd = 2 ∨ t.kd = 3 ∨ t.kd = 4 ∨ t.kd = 5 ∨ t.kd = 6 ∨ t.kd = 7 := by omega
  · exact puts0 w p t va vn vc ht.hv h _ _ (back _ _ (num_none _ p t.n (by omega) (by omega) h' hp'))
  · exact puts1 w p t va vn vc ht.hv zs ht.bin h _ _ (back _ _ (ntext _ p (st zs) (by rw [st_size]; omega) h' hp'))
  · exact puts2 w p t va vn vc ht.hv h _ _ (back _ _ (nbytes _ p va vn vc hn h' hp'))
  · exact puts3 w p t h _ _ (back _ _ (nhash _ p t.h h' hp'))
  · exact puts4 w p t h _ _ (back _ _ (nkey _ p t.k h' hp'))
  · exact puts5 w p t va vn vc ht.hv h _ _ (back _ _ (nword _ p t.u ht.u0 ht.u1 h' hp'))
  · exact puts6 w p t x hx h _ _ (back _ _ (npace _ p x (by omega) h' hp'))
  · exact puts7 w p t va vn vc ht.hv h _ _ (back _ _ (nbool _ p t.is h' hp'))
end WirNA
end Go.Proofs.Ytplinpbmncccoaa
