/-
  Paces written and read; failures that leave the bytes as they are; several objects side by side.
-/
import Derived.Test.YtplinpbmncccoaaWirV
namespace Go.Proofs.Ytplinpbmncccoaa
namespace WirW
open Go.RowKit FltC PaceA
open BlkM WirM WirS WirA WirB WirC WirD WirE WirF WirG WirH WirI WirJ WirK WirL WirN WirO WirP WirQ WirR WirT WirU WirV

/-! ### Paces -/
theorem wpace_any (w : World) (W : Nat) (lim : Int) (v : Value) (zs : List Int) (err : Int) (x : Nat) (hx : x < 18446744073709551616) (h : WSt w W lim v zs err) :
    Calls Try.prog 95 #[.pointer (some ⟨W, 0, none⟩), .float .f64 x] w (Wrote w W lim v (putZ lim err zs (wordB (canon x : Int))) (putE lim err zs (wordB (canon x : Int)).length)) := by
  have hc := canon_lt hx
  have H := WirS.hide (word_any w W lim v zs err (canon x : Int) (by omega) (by omega) h)
  have C := WirS.hide (fun W => bits_any x W)
  generalize putE lim err zs (wordB (canon x : Int)).length = E at H ⊢
  generalize putZ lim err zs (wordB (canon x : Int)) = Z at H ⊢
  clear h
  go_enter Try.func95, Try.ntmps95
  go_wp2_with (first | ((go_at_call 174; refine (C.out _).mono ?_; rintro e w1 ⟨rfl, rfl⟩)) | ((go_at_call 89; refine (H.out).mono ?_; rintro e w1 ⟨rfl, hs⟩; have HS := WirS.hide hs; clear hs)))
  go_ret
  exact ⟨rfl, HS.out⟩
def paceO (bs : List Int) (at' : Nat) : Sum Int (Nat × Nat) :=
  if bs.length < at' + 8 then .inl 6 else
  if canon (vL ((bs.drop at').take 8)).toNat = (vL ((bs.drop at').take 8)).toNat then .inr ((vL ((bs.drop at').take 8)).toNat, at' + 8) else .inl 5
theorem paceOf_ok (w : World) (a : Option Addr) (n c : Nat) (zs : List Int) (h : BIn w (.slice a n c) zs) (hr : ∀ x ∈ zs, 0 ≤ x ∧ x < 256) (h8 : zs.length ≤ 8) (hc : canon (vL zs).toNat = (vL zs).toNat) :
    Calls Try.prog 142 #[.slice a n c] w fun e w' => e = .returned (.float .f64 (vL zs).toNat) ∧ w = w' := by
  have hv := (vL_lt zs hr).1
  have H := WirS.hide (WirG.word_any w a n c zs h hr h8)
  obtain ⟨k, hk⟩ := Int.eq_ofNat_of_zero_le hv
  rw [hk] at H hc ⊢
  rw [Int.toNat_natCast] at hc ⊢
  have C := WirS.hide (fun W => pof_ok k W hc)
  clear h hv hk hc
  go_enter Try.func142, Try.ntmps142
  go_wp2_with (first | ((go_at_call 138; refine (H.out).mono ?_; rintro e w1 ⟨rfl, rfl⟩)) | ((go_at_call 195; refine (C.out _).mono ?_; rintro e w1 ⟨rfl, rfl⟩)))
  go_ret
  exact ⟨rfl, rfl⟩
theorem paceOf_no (w : World) (a : Option Addr) (n c : Nat) (zs : List Int) (h : BIn w (.slice a n c) zs) (hr : ∀ x ∈ zs, 0 ≤ x ∧ x < 256) (h8 : zs.length ≤ 8) (hc : canon (vL zs).toNat ≠ (vL zs).toNat) :
    Calls Try.prog 142 #[.slice a n c] w fun e w' => e = .panicked (hp 5) ∧ w = w' := by
  have hv := (vL_lt zs hr).1
  have H := WirS.hide (WirG.word_any w a n c zs h hr h8)
  obtain ⟨k, hk⟩ := Int.eq_ofNat_of_zero_le hv
  rw [hk] at H hc
  rw [Int.toNat_natCast] at hc
  have C := WirS.hide (fun W => pof_no k W hc)
  clear h hv hk hc
  go_enter Try.func142, Try.ntmps142
  go_wp2_with (first | ((go_at_call 138; refine (H.out).mono ?_; rintro e w1 ⟨rfl, rfl⟩)) | ((go_at_call 195; refine (C.out _).mono ?_; rintro e w1 ⟨rfl, rfl⟩)))
  exact ⟨rfl, rfl, rfl⟩
theorem paceC (w : World) (R : Nat) (a : Option Addr) (c : Nat) (bs : List Int) (at' b : Nat) (h : RSt w R a c bs at' 0 0) (hb : w.cell? ⟨b, 0, none⟩ = some (.pointer (some ⟨R, 0, none⟩))) :
    Calls Try.prog 140 #[.pointer (some ⟨b, 0, none⟩)] w (ElemPost w R a c bs (outOf (Value.float .f64) (paceO bs at'))) := by
  by_cases h1 : bs.length < at' + 8
  · have H := WirS.hide (show Calls _ _ #[_, .int .i64 8, _] _ _ from take_short_pace w R a c bs at' 8 (.func (.func 142) #[] #[]) h (by omega) h1)
    rw [show paceO bs at' = .inl 6 by unfold paceO; rw [if_pos h1]]
    clear h h1
    go_enter Try.func140, Try.ntmps140
    go_wp2_with ((go_at_call 141; refine (H.out).mono ?_; rintro e w1 ⟨rfl, h2⟩))
    exact ⟨rfl, rfl, h2⟩
  · by_cases h2 : canon (vL ((bs.drop at').take 8)).toNat = (vL ((bs.drop at').take 8)).toNat
    · have H := WirS.hide (show Calls _ _ #[_, .int .i64 8, _] _ (Got w R a c bs (.float .f64 (vL ((bs.drop at').take 8)).toNat) (at' + 8)) from take_pace w R a c bs at' 8 h (by omega) _ (fun _ h => by cases h.1) fun W hR hF =>
        (paceOf_ok W (sa a c at') 8 (c - at') _ (bin_sub hR.bin at' 8 (by omega)) (sub_rng hR.bytes at' 8) (by simp; omega) h2).mono fun e w' ⟨h1, h2⟩ => by subst h2; exact ⟨h1, hR, hF⟩)
      rw [show paceO bs at' = .inr ((vL ((bs.drop at').take 8)).toNat, at' + 8) by unfold paceO; rw [if_neg h1, if_pos h2]]
      generalize (vL ((bs.drop at').take 8)).toNat = y at H ⊢
      clear h h1 h2
      go_enter Try.func140, Try.ntmps140
      go_wp2_with ((go_at_call 141; refine (H.out).mono ?_; rintro e w1 ⟨rfl, h3, h4⟩; have HR := WirS.hide h3; clear h3))
      go_ret
      exact ⟨_, rfl, rfl, HR.out, h4⟩
    · have H := WirS.hide (show Calls _ _ #[_, .int .i64 8, _] _ (Bad w R a c bs 5) from take_pace w R a c bs at' 8 h (by omega) _ (fun _ h => by cases h.1) fun W hR hF =>
        (paceOf_no W (sa a c at') 8 (c - at') _ (bin_sub hR.bin at' 8 (by omega)) (sub_rng hR.bytes at' 8) (by simp; omega) h2).mono fun e w' ⟨h1, h2⟩ => by subst h2; exact ⟨h1, ⟨_, hR⟩, hF⟩)
      rw [show paceO bs at' = .inl 5 by unfold paceO; rw [if_neg h1, if_neg h2]]
      clear h h1 h2
      go_enter Try.func140, Try.ntmps140
      go_wp2_with ((go_at_call 141; refine (H.out).mono ?_; rintro e w1 ⟨rfl, h2⟩))
      exact ⟨rfl, rfl, h2⟩
theorem pace_none (w : World) (p : Option Addr) (h : NoR w p) (hp : ∀ S, p = some ⟨S, 0, none⟩ → S < w.heap.size) : Calls Try.prog 43 #[.pointer p] w fun e w' => e = .returned (.float .f64 0) ∧ Below w.heap.size w w' := by
  have H := WirS.hide (fun fv => read_none_pace (w.alloc (.cells #[.pointer p] 48)) p fv (by
    rcases h with rfl | ⟨S, rfl, hc⟩
    · exact .inl rfl
    · exact .inr ⟨S, rfl, ((Below.alloc (Below.refl w.heap.size w) (Nat.le_refl _) _).cell (hp S rfl)).trans hc⟩) (fun S hS => by have := hp S hS; simp; omega))
  have hmf : ∀ (fn : Fn) (first cap : Array Value) (w : World), (Instr.makeFunc fn first cap).run Try.prog w = .ok (.func fn first cap) w := fun _ _ _ _ => rfl
  clear h hp
  go_enter Try.func43, Try.ntmps43
  go_wp2_with ((go_at_call 139; refine (H.out _).mono ?_; rintro e w1 ⟨rfl, h2⟩; have HB := WirS.hide h2; clear h2))
  go_ret
  exact ⟨rfl, Below.box HB.out⟩
theorem pace_fault (w : World) (R : Nat) (a : Option Addr) (c : Nat) (bs : List Int) (at' : Nat) (fe fa : Int) (h : RSt w R a c bs at' fe fa) (he : fe ≠ 0) : Calls Try.prog 43 #[.pointer (some ⟨R, 0, none⟩)] w fun e w' => e = .returned (.float .f64 0) ∧ Below w.heap.size w w' := by
  have H := WirS.hide (fun fv => read_fault_pace (w.alloc (.cells #[.pointer (some ⟨R, 0, none⟩)] 48)) R a c bs at' fe fa fv (h.below (Below.alloc (Below.refl _ _) (Nat.le_refl _) _)) he)
  have hmf : ∀ (fn : Fn) (first cap : Array Value) (w : World), (Instr.makeFunc fn first cap).run Try.prog w = .ok (.func fn first cap) w := fun _ _ _ _ => rfl
  clear h he
  go_enter Try.func43, Try.ntmps43
  go_wp2_with ((go_at_call 139; refine (H.out _).mono ?_; rintro e w1 ⟨rfl, h2⟩; have HB := WirS.hide h2; clear h2))
  go_ret
  exact ⟨rfl, Below.box HB.out⟩
theorem pace_read (w : World) (R : Nat) (a : Option Addr) (c : Nat) (bs : List Int) (at' : Nat) (h : RSt w R a c bs at' 0 0) : Calls Try.prog 43 #[.pointer (some ⟨R, 0, none⟩)] w (ReadPost w R a c bs at' (.float .f64 0) (outOf (Value.float .f64) (paceO bs at'))) := by
  have H := WirS.hide (read_pace (w.alloc (.cells #[.pointer (some ⟨R, 0, none⟩)] 48)) R a c bs at' (.pointer (some ⟨w.heap.size, 0, none⟩)) (outOf (Value.float .f64) (paceO bs at')) (h.below (Below.alloc (Below.refl _ _) (Nat.le_refl _) _))
    (fun W hb hR => paceC W R a c bs at' w.heap.size hR (((At.new w 48 [.pointer (some ⟨R, 0, none⟩)]).below hb (by simp)).cell 0)))
  have hmf : ∀ (fn : Fn) (first cap : Array Value) (w : World), (Instr.makeFunc fn first cap).run Try.prog w = .ok (.func fn first cap) w := fun _ _ _ _ => rfl
  have HB := WirS.hide (show Below w.heap.size w (w.alloc (.cells #[.pointer (some ⟨R, 0, none⟩)] 48)) from Below.alloc (Below.refl _ _) (Nat.le_refl _) _)
  generalize hO : outOf (Value.float .f64) (paceO bs at') = O at H ⊢
  clear h
  cases O with
  | inl code =>
    clear hO
    go_enter Try.func43, Try.ntmps43
    go_wp2_with ((go_at_call 139; refine (H.out).mono ?_; rintro e w1 ⟨rfl, h2⟩; have HH := WirS.hide h2; clear h2))
    go_ret
    exact ReadPost.pre HB.out ⟨rfl, HH.out⟩
  | inr x =>
    clear hO
    go_enter Try.func43, Try.ntmps43
    go_wp2_with ((go_at_call 139; refine (H.out).mono ?_; rintro e w1 ⟨v, rfl, h2⟩; have HH := WirS.hide h2; clear h2))
    first | exact ReadPost.pre HB.out ⟨_, rfl, HH.out⟩ | (go_ret; exact ReadPost.pre HB.out ⟨_, rfl, HH.out⟩)
end WirW
end Go.Proofs.Ytplinpbmncccoaa
