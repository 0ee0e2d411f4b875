/-
  The program's reader: texts and bytes; the calls Num, Word, Bool, Text, Bytes, Rest, End, NewReader.
-/
import Derived.Test.YtplinpbmncccoaaWirJ
namespace Go.Proofs.Ytplinpbmncccoaa
namespace WirK
open Go.RowKit
open BlkM WirM WirS WirA WirB WirE WirF WirG WirH WirI WirJ

/-- Bytes that are handed out: memory of their own. -/
def Fresh (w0 : World) (zs : List Int) (v : Value) (w' : World) : Prop := ∃ va vn vc, v = .slice va vn vc ∧ Own w' 5 (.slice va vn vc) zs ∧ NewB w0 (.slice va vn vc)
def outB (w0 : World) : Sum Int (List Int × Nat) → Out
  | .inl c => .inl c
  | .inr x => .inr (Fresh w0 x.1, x.2)
theorem numO_ok {bs : List Int} {at' : Nat} (hb : ∀ x ∈ bs, 0 ≤ x ∧ x < 256) {x : Int × Nat} (h : numO bs at' = .inr x) : 0 ≤ x.1 ∧ x.1 ≤ 9223372036854775807 ∧ at' < x.2 ∧ x.2 ≤ bs.length := by
  unfold numO at h
  split at h
  · cases h
  split at h
  · cases h
  split at h
  · cases h
  split at h
  · cases h
  rename_i h1 h2 h3 h4
  cases h
  have := vL_lt _ (sub_rng hb (at' + 1) (bs.getD at' 0).toNat)
  refine ⟨this.1, ?_, ?_, ?_⟩
  · simp only [badN, not_or] at h4
    omega
  · show at' < at' + 1 + (bs.getD at' 0).toNat
    omega
  · show at' + 1 + (bs.getD at' 0).toNat ≤ bs.length
    omega
theorem take_text_ok (w : World) (R : Nat) (a : Option Addr) (c : Nat) (bs : List Int) (at' n : Nat) (h : RSt w R a c bs at' 0 0) (hn : at' + n ≤ bs.length) :
    Calls Try.prog 188 #[.pointer (some ⟨R, 0, none⟩), .int .i64 (n : Int), .func (.func 123) #[] #[]] w (fun e w' => ∃ v, e = .returned v ∧ v = .string (st ((bs.drop at').take n)) ∧ RSt w' R a c bs (at' + n) 0 0 ∧ Fr (Xr R) w w') :=
  take_text w R a c bs at' n h hn _ (fun _ ⟨_, h, _⟩ => by cases h) fun W hR hF =>
    (text11 W (sa a c at') n (c - at') _ (bin_sub hR.bin at' n hn)).mono fun e w' ⟨h1, h2⟩ => by subst h2; exact ⟨_, h1, rfl, hR, hF⟩
theorem take_bytes_ok (w0 w : World) (hw : w0.heap.size ≤ w.heap.size) (R : Nat) (a : Option Addr) (c : Nat) (bs : List Int) (at' n : Nat) (h : RSt w R a c bs at' 0 0) (hn : at' + n ≤ bs.length) :
    Calls Try.prog 190 #[.pointer (some ⟨R, 0, none⟩), .int .i64 (n : Int), .func (.func 106) #[] #[]] w (fun e w' => ∃ v, e = .returned v ∧ Fresh w0 ((bs.drop at').take n) v w' ∧ RSt w' R a c bs (at' + n) 0 0 ∧ Fr (Xr R) w w') :=
  take_bytes w R a c bs at' n h hn _ (fun _ ⟨_, h, _⟩ => by cases h) fun W hR hF =>
    (clone_any W (sa a c at') n (c - at') _ (bin_sub hR.bin at' n hn) (by have := hR.small; omega)).mono fun e w' ⟨va, vn, vc, h1, h2, h3, h4⟩ =>
      ⟨_, h1, ⟨va, vn, vc, rfl, h2, fun k hk => Nat.le_trans hw (Nat.le_trans hF.size (h3 k hk))⟩, hR.below h4, hF.trans (Fr.of_below h4)⟩
set_option maxHeartbeats 2000000 in
theorem sized_text (w : World) (R : Nat) (a : Option Addr) (c : Nat) (bs : List Int) (at' : Nat) (most : Int) (h : RSt w R a c bs at' 0 0) :
    Calls Try.prog 122 #[.pointer (some ⟨R, 0, none⟩), .int .i64 most, .func (.func 123) #[] #[]] w (ElemPost w R a c bs (outOf (fun zs => Value.string (st zs)) (sizedO bs at' most))) := by
  have H := hide (takeNumber_any w R a c bs at' h)
  have hB := h.bytes
  cases hnum : numO bs at' with
  | inl code =>
    rw [show sizedO bs at' most = .inl code by unfold sizedO; rw [hnum]]
    rw [hnum] at H
    clear h hB hnum
    go_enter Try.func122, Try.ntmps122
    go_wp2_with ((go_at_call 119; refine (H.out).mono ?_; rintro e w1 ⟨rfl, h2⟩))
    exact ⟨rfl, rfl, h2⟩
  | inr x =>
    obtain ⟨y, p⟩ := x
    have hok := numO_ok hB hnum
    simp only at hok
    obtain ⟨n, rfl⟩ := Int.eq_ofNat_of_zero_le hok.1
    rw [hnum] at H
    have hs : sizedO bs at' most = if max most 0 < (n : Int) then .inl 4 else if bs.length < p + n then .inl 6 else .inr ((bs.drop p).take n, p + n) := by
      unfold sizedO
      rw [hnum]
      simp
    rw [hs]
    clear h hB hnum hs
    obtain ⟨_, hn1, _, hp⟩ := hok
    by_cases h1 : max most 0 < (n : Int)
    · rw [if_pos h1]
      go_enter Try.func122, Try.ntmps122
      go_wp2_with ((go_at_call 119; refine (H.out).mono ?_; rintro e w1 ⟨v, rfl, rfl, hr, hf⟩; have HR := hide hr; clear hr))
      exact ⟨rfl, rfl, ⟨_, HR.out⟩, hf⟩
    · rw [if_neg h1]
      by_cases h2 : bs.length < p + n
      · rw [if_pos h2]
        have H2 := hide (fun W (hR : RSt W R a c bs p 0 0) => take_short_text W R a c bs p n (.func (.func 123) #[] #[]) hR (by omega) h2)
        go_enter Try.func122, Try.ntmps122
        go_wp2_with (first | ((go_at_call 119; refine (H.out).mono ?_; rintro e w1 ⟨v, rfl, rfl, hr, hf⟩; have HR := hide hr; clear hr)) | ((go_at_call 188; refine (H2.out _ HR.out).mono ?_; rintro e w2 ⟨rfl, h5, h6⟩)))
        exact ⟨rfl, rfl, h5, hf.trans h6⟩
      · rw [if_neg h2]
        have H2 := hide (fun W (hR : RSt W R a c bs p 0 0) (hs : w.heap.size ≤ W.heap.size) => take_text_ok W R a c bs p n hR (by omega))
        generalize (bs.drop p).take n = zs at H2 ⊢
        go_enter Try.func122, Try.ntmps122
        go_wp2_with (first | ((go_at_call 119; refine (H.out).mono ?_; rintro e w1 ⟨v, rfl, rfl, hr, hf⟩; have HR := hide hr; clear hr)) | ((go_at_call 188; refine (H2.out _ HR.out hf.size).mono ?_; rintro e w2 ⟨v, rfl, h7, h5, h6⟩; have HR2 := hide h5; have H7 := hide h7; clear h5 h7)))
        first | exact ⟨_, rfl, H7.out, HR2.out, hf.trans h6⟩ | (go_ret; exact ⟨_, rfl, H7.out, HR2.out, hf.trans h6⟩)
set_option maxHeartbeats 2000000 in
theorem sized_bytes (w0 w : World) (hw : w0.heap.size ≤ w.heap.size) (R : Nat) (a : Option Addr) (c : Nat) (bs : List Int) (at' : Nat) (most : Int) (h : RSt w R a c bs at' 0 0) :
    Calls Try.prog 126 #[.pointer (some ⟨R, 0, none⟩), .int .i64 most, .func (.func 106) #[] #[]] w (ElemPost w R a c bs (outB w0 (sizedO bs at' most))) := by
  have H := hide (takeNumber_any w R a c bs at' h)
  have hB := h.bytes
  cases hnum : numO bs at' with
  | inl code =>
    rw [show sizedO bs at' most = .inl code by unfold sizedO; rw [hnum]]
    rw [hnum] at H
    clear h hB hnum
    go_enter Try.func126, Try.ntmps126
    go_wp2_with ((go_at_call 119; refine (H.out).mono ?_; rintro e w1 ⟨rfl, h2⟩))
    exact ⟨rfl, rfl, h2⟩
  | inr x =>
    obtain ⟨y, p⟩ := x
    have hok := numO_ok hB hnum
    simp only at hok
    obtain ⟨n, rfl⟩ := Int.eq_ofNat_of_zero_le hok.1
    rw [hnum] at H
    have hs : sizedO bs at' most = if max most 0 < (n : Int) then .inl 4 else if bs.length < p + n then .inl 6 else .inr ((bs.drop p).take n, p + n) := by
      unfold sizedO
      rw [hnum]
      simp
    rw [hs]
    clear h hB hnum hs
    obtain ⟨_, hn1, _, hp⟩ := hok
    by_cases h1 : max most 0 < (n : Int)
    · rw [if_pos h1]
      go_enter Try.func126, Try.ntmps126
      go_wp2_with ((go_at_call 119; refine (H.out).mono ?_; rintro e w1 ⟨v, rfl, rfl, hr, hf⟩; have HR := hide hr; clear hr))
      exact ⟨rfl, rfl, ⟨_, HR.out⟩, hf⟩
    · rw [if_neg h1]
      by_cases h2 : bs.length < p + n
      · rw [if_pos h2]
        have H2 := hide (fun W (hR : RSt W R a c bs p 0 0) => take_short_bytes W R a c bs p n (.func (.func 106) #[] #[]) hR (by omega) h2)
        go_enter Try.func126, Try.ntmps126
        go_wp2_with (first | ((go_at_call 119; refine (H.out).mono ?_; rintro e w1 ⟨v, rfl, rfl, hr, hf⟩; have HR := hide hr; clear hr)) | ((go_at_call 190; refine (H2.out _ HR.out).mono ?_; rintro e w2 ⟨rfl, h5, h6⟩)))
        exact ⟨rfl, rfl, h5, hf.trans h6⟩
      · rw [if_neg h2]
        have H2 := hide (fun W (hR : RSt W R a c bs p 0 0) (hs : w.heap.size ≤ W.heap.size) => take_bytes_ok w0 W (Nat.le_trans hw hs) R a c bs p n hR (by omega))
        generalize (bs.drop p).take n = zs at H2 ⊢
        go_enter Try.func126, Try.ntmps126
        go_wp2_with (first | ((go_at_call 119; refine (H.out).mono ?_; rintro e w1 ⟨v, rfl, rfl, hr, hf⟩; have HR := hide hr; clear hr)) | ((go_at_call 190; refine (H2.out _ HR.out hf.size).mono ?_; rintro e w2 ⟨v, rfl, h7, h5, h6⟩; have HR2 := hide h5; have H7 := hide h7; clear h5 h7)))
        first | exact ⟨_, rfl, H7.out, HR2.out, hf.trans h6⟩ | (go_ret; exact ⟨_, rfl, H7.out, HR2.out, hf.trans h6⟩)
theorem textC (w : World) (R : Nat) (a : Option Addr) (c : Nat) (bs : List Int) (at' b d : Nat) (most : Int) (h : RSt w R a c bs at' 0 0) (hb : w.cell? ⟨b, 0, none⟩ = some (.pointer (some ⟨R, 0, none⟩))) (hd : w.cell? ⟨d, 0, none⟩ = some (.int .i64 most)) :
    Calls Try.prog 121 #[.pointer (some ⟨b, 0, none⟩), .pointer (some ⟨d, 0, none⟩)] w (ElemPost w R a c bs (outOf (fun zs => Value.string (st zs)) (sizedO bs at' most))) := by
  have H := hide (sized_text w R a c bs at' most h)
  clear h
  cases hs : sizedO bs at' most with
  | inl code =>
    rw [hs] at H
    go_enter Try.func121, Try.ntmps121
    go_wp2_with ((go_at_call 122; refine (H.out).mono ?_; rintro e w1 ⟨rfl, h2⟩))
    exact ⟨rfl, rfl, h2⟩
  | inr x =>
    rw [hs] at H
    clear hs
    go_enter Try.func121, Try.ntmps121
    go_wp2_with ((go_at_call 122; refine (H.out).mono ?_; rintro e w2 ⟨v, rfl, h7, h5, h6⟩; have HR2 := hide h5; have H7 := hide h7; clear h5 h7))
    first | exact ⟨_, rfl, H7.out, HR2.out, h6⟩ | (go_ret; exact ⟨_, rfl, H7.out, HR2.out, h6⟩)
theorem bytesC (w0 w : World) (hw : w0.heap.size ≤ w.heap.size) (R : Nat) (a : Option Addr) (c : Nat) (bs : List Int) (at' b d : Nat) (most : Int) (h : RSt w R a c bs at' 0 0) (hb : w.cell? ⟨b, 0, none⟩ = some (.pointer (some ⟨R, 0, none⟩))) (hd : w.cell? ⟨d, 0, none⟩ = some (.int .i64 most)) :
    Calls Try.prog 125 #[.pointer (some ⟨b, 0, none⟩), .pointer (some ⟨d, 0, none⟩)] w (ElemPost w R a c bs (outB w0 (sizedO bs at' most))) := by
  have H := hide (sized_bytes w0 w hw R a c bs at' most h)
  clear h
  cases hs : sizedO bs at' most with
  | inl code =>
    rw [hs] at H
    go_enter Try.func125, Try.ntmps125
    go_wp2_with ((go_at_call 126; refine (H.out).mono ?_; rintro e w1 ⟨rfl, h2⟩))
    exact ⟨rfl, rfl, h2⟩
  | inr x =>
    rw [hs] at H
    clear hs
    go_enter Try.func125, Try.ntmps125
    go_wp2_with ((go_at_call 126; refine (H.out).mono ?_; rintro e w2 ⟨v, rfl, h7, h5, h6⟩; have HR2 := hide h5; have H7 := hide h7; clear h5 h7))
    first | exact ⟨_, rfl, H7.out, HR2.out, h6⟩ | (go_ret; exact ⟨_, rfl, H7.out, HR2.out, h6⟩)
/-! ### The calls -/
theorem ReadPost.pre {w w1 : World} {R : Nat} {a : Option Addr} {c : Nat} {bs : List Int} {at' : Nat} {zero : Value} {out : Out} {e : Ending} {w' : World} (hb : Below w.heap.size w w1) (h : ReadPost w1 R a c bs at' zero out e w') : ReadPost w R a c bs at' zero out e w' := by
  cases out with
  | inl code => exact ⟨h.1, h.2.1, (Fr.of_below hb).trans h.2.2⟩
  | inr x =>
    obtain ⟨v, h1, h2, h3, h4⟩ := h
    exact ⟨v, h1, h2, h3, (Fr.of_below hb).trans h4⟩
theorem Below.box {w W : World} {o : Obj} (h : Below (w.alloc o).heap.size (w.alloc o) W) : Below w.heap.size w W := (Below.alloc (Below.refl _ _) (Nat.le_refl _) o).trans (h.mono (by simp))
theorem word_none (w : World) (p : Option Addr) (h : NoR w p) (hp : ∀ S, p = some ⟨S, 0, none⟩ → S < w.heap.size) : Calls Try.prog 42 #[.pointer p] w fun e w' => e = .returned (.int .u64 0) ∧ Below w.heap.size w w' := by
  have H := hide (fun fv => read_none_word (w.alloc (.cells #[.pointer p] 48)) p fv (by
    rcases h with rfl | ⟨S, rfl, hc⟩
    · exact .inl rfl
    · exact .inr ⟨S, rfl, ((Below.alloc (Below.refl w.heap.size w) (Nat.le_refl _) _).cell (hp S rfl)).trans hc⟩) (fun S hS => by have := hp S hS; simp; omega))
  have hmf : ∀ (fn : Fn) (first cap : Array Value) (w : World), (Instr.makeFunc fn first cap).run Try.prog w = .ok (.func fn first cap) w := fun _ _ _ _ => rfl
  clear h hp
  go_enter Try.func42, Try.ntmps42
  go_wp2_with ((go_at_call 135; refine (H.out _).mono ?_; rintro e w1 ⟨rfl, h2⟩; have HB := hide h2; clear h2))
  go_ret
  exact ⟨rfl, Below.box HB.out⟩
theorem word_fault (w : World) (R : Nat) (a : Option Addr) (c : Nat) (bs : List Int) (at' : Nat) (fe fa : Int) (h : RSt w R a c bs at' fe fa) (he : fe ≠ 0) : Calls Try.prog 42 #[.pointer (some ⟨R, 0, none⟩)] w fun e w' => e = .returned (.int .u64 0) ∧ Below w.heap.size w w' := by
  have H := hide (fun fv => read_fault_word (w.alloc (.cells #[.pointer (some ⟨R, 0, none⟩)] 48)) R a c bs at' fe fa fv (h.below (Below.alloc (Below.refl _ _) (Nat.le_refl _) _)) he)
  have hmf : ∀ (fn : Fn) (first cap : Array Value) (w : World), (Instr.makeFunc fn first cap).run Try.prog w = .ok (.func fn first cap) w := fun _ _ _ _ => rfl
  clear h he
  go_enter Try.func42, Try.ntmps42
  go_wp2_with ((go_at_call 135; refine (H.out _).mono ?_; rintro e w1 ⟨rfl, h2⟩; have HB := hide h2; clear h2))
  go_ret
  exact ⟨rfl, Below.box HB.out⟩
theorem word_read (w : World) (R : Nat) (a : Option Addr) (c : Nat) (bs : List Int) (at' : Nat) (h : RSt w R a c bs at' 0 0) : Calls Try.prog 42 #[.pointer (some ⟨R, 0, none⟩)] w (ReadPost w R a c bs at' (.int .u64 0) (outOf (Value.int .u64) (wordO bs at'))) := by
  have H := hide (read_word (w.alloc (.cells #[.pointer (some ⟨R, 0, none⟩)] 48)) R a c bs at' (.pointer (some ⟨w.heap.size, 0, none⟩)) (outOf (Value.int .u64) (wordO bs at')) (h.below (Below.alloc (Below.refl _ _) (Nat.le_refl _) _))
    (fun W hb hR => wordC W R a c bs at' w.heap.size hR (((At.new w 48 [.pointer (some ⟨R, 0, none⟩)]).below hb (by simp)).cell 0)))
  have hmf : ∀ (fn : Fn) (first cap : Array Value) (w : World), (Instr.makeFunc fn first cap).run Try.prog w = .ok (.func fn first cap) w := fun _ _ _ _ => rfl
  have HB := hide (show Below w.heap.size w (w.alloc (.cells #[.pointer (some ⟨R, 0, none⟩)] 48)) from Below.alloc (Below.refl _ _) (Nat.le_refl _) _)
  generalize hO : outOf (Value.int .u64) (wordO bs at') = O at H ⊢
  clear h
  cases O with
  | inl code =>
    clear hO
    go_enter Try.func42, Try.ntmps42
    go_wp2_with ((go_at_call 135; refine (H.out).mono ?_; rintro e w1 ⟨rfl, h2⟩; have HH := hide h2; clear h2))
    go_ret
    exact ReadPost.pre HB.out ⟨rfl, HH.out⟩
  | inr x =>
    clear hO
    go_enter Try.func42, Try.ntmps42
    go_wp2_with ((go_at_call 135; refine (H.out).mono ?_; rintro e w1 ⟨v, rfl, h2⟩; have HH := hide h2; clear h2))
    first | exact ReadPost.pre HB.out ⟨_, rfl, HH.out⟩ | (go_ret; exact ReadPost.pre HB.out ⟨_, rfl, HH.out⟩)
theorem bool_none (w : World) (p : Option Addr) (h : NoR w p) (hp : ∀ S, p = some ⟨S, 0, none⟩ → S < w.heap.size) : Calls Try.prog 44 #[.pointer p] w fun e w' => e = .returned (.bool false) ∧ Below w.heap.size w w' := by
  have H := hide (fun fv => read_none_bool (w.alloc (.cells #[.pointer p] 48)) p fv (by
    rcases h with rfl | ⟨S, rfl, hc⟩
    · exact .inl rfl
    · exact .inr ⟨S, rfl, ((Below.alloc (Below.refl w.heap.size w) (Nat.le_refl _) _).cell (hp S rfl)).trans hc⟩) (fun S hS => by have := hp S hS; simp; omega))
  have hmf : ∀ (fn : Fn) (first cap : Array Value) (w : World), (Instr.makeFunc fn first cap).run Try.prog w = .ok (.func fn first cap) w := fun _ _ _ _ => rfl
  clear h hp
  go_enter Try.func44, Try.ntmps44
  go_wp2_with ((go_at_call 143; refine (H.out _).mono ?_; rintro e w1 ⟨rfl, h2⟩; have HB := hide h2; clear h2))
  go_ret
  exact ⟨rfl, Below.box HB.out⟩
theorem bool_fault (w : World) (R : Nat) (a : Option Addr) (c : Nat) (bs : List Int) (at' : Nat) (fe fa : Int) (h : RSt w R a c bs at' fe fa) (he : fe ≠ 0) : Calls Try.prog 44 #[.pointer (some ⟨R, 0, none⟩)] w fun e w' => e = .returned (.bool false) ∧ Below w.heap.size w w' := by
  have H := hide (fun fv => read_fault_bool (w.alloc (.cells #[.pointer (some ⟨R, 0, none⟩)] 48)) R a c bs at' fe fa fv (h.below (Below.alloc (Below.refl _ _) (Nat.le_refl _) _)) he)
  have hmf : ∀ (fn : Fn) (first cap : Array Value) (w : World), (Instr.makeFunc fn first cap).run Try.prog w = .ok (.func fn first cap) w := fun _ _ _ _ => rfl
  clear h he
  go_enter Try.func44, Try.ntmps44
  go_wp2_with ((go_at_call 143; refine (H.out _).mono ?_; rintro e w1 ⟨rfl, h2⟩; have HB := hide h2; clear h2))
  go_ret
  exact ⟨rfl, Below.box HB.out⟩
theorem bool_read (w : World) (R : Nat) (a : Option Addr) (c : Nat) (bs : List Int) (at' : Nat) (h : RSt w R a c bs at' 0 0) : Calls Try.prog 44 #[.pointer (some ⟨R, 0, none⟩)] w (ReadPost w R a c bs at' (.bool false) (outOf Value.bool (boolO bs at'))) := by
  have H := hide (read_bool (w.alloc (.cells #[.pointer (some ⟨R, 0, none⟩)] 48)) R a c bs at' (.pointer (some ⟨w.heap.size, 0, none⟩)) (outOf Value.bool (boolO bs at')) (h.below (Below.alloc (Below.refl _ _) (Nat.le_refl _) _))
    (fun W hb hR => boolC W R a c bs at' w.heap.size hR (((At.new w 48 [.pointer (some ⟨R, 0, none⟩)]).below hb (by simp)).cell 0)))
  have hmf : ∀ (fn : Fn) (first cap : Array Value) (w : World), (Instr.makeFunc fn first cap).run Try.prog w = .ok (.func fn first cap) w := fun _ _ _ _ => rfl
  have HB := hide (show Below w.heap.size w (w.alloc (.cells #[.pointer (some ⟨R, 0, none⟩)] 48)) from Below.alloc (Below.refl _ _) (Nat.le_refl _) _)
  generalize hO : outOf Value.bool (boolO bs at') = O at H ⊢
  clear h
  cases O with
  | inl code =>
    clear hO
    go_enter Try.func44, Try.ntmps44
    go_wp2_with ((go_at_call 143; refine (H.out).mono ?_; rintro e w1 ⟨rfl, h2⟩; have HH := hide h2; clear h2))
    go_ret
    exact ReadPost.pre HB.out ⟨rfl, HH.out⟩
  | inr x =>
    clear hO
    go_enter Try.func44, Try.ntmps44
    go_wp2_with ((go_at_call 143; refine (H.out).mono ?_; rintro e w1 ⟨v, rfl, h2⟩; have HH := hide h2; clear h2))
    first | exact ReadPost.pre HB.out ⟨_, rfl, HH.out⟩ | (go_ret; exact ReadPost.pre HB.out ⟨_, rfl, HH.out⟩)
end WirK
end Go.Proofs.Ytplinpbmncccoaa
