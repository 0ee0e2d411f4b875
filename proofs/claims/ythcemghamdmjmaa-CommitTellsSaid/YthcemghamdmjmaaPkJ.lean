/-
  ValSG, ValSH, ValSI, ValSJ, ValSK, ValSL, in one text.
-/
import Derived.Test.YthcemghamdmjmaaPkI
import Derived.Test.YthcemghamdmjmaaPkC
import Derived.Test.YthcemghamdmjmaaPkD
import Derived.Test.YthcemghamdmjmaaPkF
namespace Go.Proofs.Ythcemghamdmjmaa
namespace ValSG
open Go.RowKit
open BlkM WirM WirS ValSA ValSB ValSC ValSD ValK
open WirG (vL vL_snoc vL_lt vL_bound or256 take_snoc)
open WirH (sub_rng)
open WirJ (wordO boolO)
open WirRT (rng)

def restS (bs : List Int) : St → Int
  | .inl _ => 0
  | .inr p => (bs.length : Int) - (p : Int)
theorem rs_rest (w : World) (R : Nat) (a : Option Addr) (c : Nat) (bs : List Int) (s : St) (h : RS w R a c bs s) (hs : bs.length ≤ 1099511627776) :
    Calls Try.prog 34 #[.pointer (some ⟨R, 0, none⟩)] w fun e w' => e = .returned (.int .i64 (restS bs s)) ∧ Below w.heap.size w w' := by
  cases s with
  | inl f =>
    obtain ⟨hne, p, hp⟩ := h
    have c2 : w.cell? ⟨R, 2, none⟩ = some (.int .i64 f.1) := hp.cell.cell 2
    have e1 : (f.1 == 0) = false := by simpa using hne
    have e2 : (f.1 != 0) = true := by simpa using hne
    unfold restS
    clear hp hne
    go_enter Try.func34, Try.ntmps34
    go_wp2_with fail
    go_ret
    exact ⟨rfl, Below.refl _ _⟩
  | inr p =>
    obtain ⟨hp, h⟩ := h
    have c0 : w.cell? ⟨R, 0, none⟩ = some (.slice a bs.length c) := h.cell.cell 0
    have c1 : w.cell? ⟨R, 1, none⟩ = some (.int .i64 (p : Int)) := h.cell.cell 1
    have c2 : w.cell? ⟨R, 2, none⟩ = some (.int .i64 0) := h.cell.cell 2
    unfold restS
    generalize bs.length = m at *
    clear h
    go_enter Try.func34, Try.ntmps34
    go_wp2_with fail
    go_quiet (fail)
    go_wp2_with fail
    go_ret
    exact ⟨rfl, below_drewN (Below.refl _ _) _⟩
set_option maxRecDepth 10000 in
set_option maxHeartbeats 4000000 in
theorem bool_fault (w : World) (R : Nat) (a : Option Addr) (c : Nat) (bs : List Int) (p fe fa : Int) (h : RR w R a c bs p fe fa) (hne : fe ≠ 0) :
    Calls Try.prog 122 #[.pointer (some ⟨R, 0, none⟩)] w fun e w' => e = .returned (.bool false) ∧ w = w' := by
  have c1 : w.cell? ⟨R, 1, none⟩ = some (.int .i64 p) := h.cell.cell 1
  have HT := WirS.hide (take_fault w R a c bs p fe fa 1 p h hne)
  clear h hne
  go_enter Try.func122, Try.ntmps122
  go_wp2_with (go_at_call 197; refine (HT.out).mono ?_; rintro e _ ⟨rfl, rfl⟩)
  go_ret
  exact ⟨rfl, rfl⟩
set_option maxRecDepth 10000 in
set_option maxHeartbeats 4000000 in
theorem bool_short (w : World) (R : Nat) (a : Option Addr) (c : Nat) (bs : List Int) (p : Nat) (h : RR w R a c bs (p : Int) 0 0) (hp : p ≤ bs.length) (hs : bs.length ≤ 1099511627776) (h1 : bs.length < p + 1) :
    Calls Try.prog 122 #[.pointer (some ⟨R, 0, none⟩)] w fun e w' => e = .returned (.bool false) ∧ (∃ q : Int, RR w' R a c bs q 6 (p : Int)) ∧ Fr (fun k => k = R) w w' := by
  have c1 : w.cell? ⟨R, 1, none⟩ = some (.int .i64 (p : Int)) := h.cell.cell 1
  have HT := WirS.hide (take_short w R a c bs p 1 (p : Int) h hp h1 hs (by omega))
  clear h hp h1 hs
  go_enter Try.func122, Try.ntmps122
  go_wp2_with (go_at_call 197; refine (HT.out).mono ?_; rintro e u ⟨rfl, hr, hf⟩; have HR := WirS.hide hr; have HF := WirS.hide hf; clear hr hf)
  go_ret
  exact ⟨rfl, ⟨_, HR.out⟩, HF.out⟩
set_option maxRecDepth 10000 in
set_option maxHeartbeats 4000000 in
theorem bool_big (w : World) (R : Nat) (a : Option Addr) (c : Nat) (bs : List Int) (p : Nat) (h : RR w R a c bs (p : Int) 0 0) (hs : bs.length ≤ 1099511627776) (h1 : p + 1 ≤ bs.length) (h8 : 1 < bs.getD p 0) :
    Calls Try.prog 122 #[.pointer (some ⟨R, 0, none⟩)] w fun e w' => e = .returned (.bool false) ∧ (∃ q : Int, RR w' R a c bs q 5 (p : Int)) ∧ Fr (fun k => k = R) w w' := by
  have c1 : w.cell? ⟨R, 1, none⟩ = some (.int .i64 (p : Int)) := h.cell.cell 1
  have HT := WirS.hide (take_ok w R a c bs p 1 (p : Int) h h1 hs)
  rw [one_at h1] at HT
  generalize bs.getD p 0 = x at *
  have hd : decide (1 < x) = true := by simpa using h8
  clear h h1 hs h8
  go_enter Try.func122, Try.ntmps122
  go_upto_region 4 with (go_at_call 197; refine (HT.out).mono ?_; rintro e u ⟨va, vc, rfl, hb, hr, hf⟩; obtain ⟨B, o, rfl, k0⟩ := cell0 hb (by decide); rw [List.getD_cons_zero] at k0; have HR := WirS.hide hr; have HF := WirS.hide hf; clear hr hf hb)
  clear c1
  go_wp2_with (go_at_call 198; refine (fails_ok _ R a c bs _ 5 (p : Int) HR.out).mono ?_; rintro e u2 ⟨rfl, hr, hf⟩; have HR2 := WirS.hide hr; have HF2 := WirS.hide hf; clear hr hf)
  go_ret
  exact ⟨rfl, ⟨_, HR2.out⟩, HF.out.trans HF2.out⟩
set_option maxRecDepth 10000 in
set_option maxHeartbeats 4000000 in
theorem bool_ok (w : World) (R : Nat) (a : Option Addr) (c : Nat) (bs : List Int) (p : Nat) (h : RR w R a c bs (p : Int) 0 0) (hs : bs.length ≤ 1099511627776) (h1 : p + 1 ≤ bs.length) (h8 : ¬ 1 < bs.getD p 0) :
    Calls Try.prog 122 #[.pointer (some ⟨R, 0, none⟩)] w fun e w' => e = .returned (.bool (bs.getD p 0 == 1)) ∧ RR w' R a c bs ((p + 1 : Nat) : Int) 0 0 ∧ Fr (fun k => k = R) w w' := by
  have c1 : w.cell? ⟨R, 1, none⟩ = some (.int .i64 (p : Int)) := h.cell.cell 1
  have HT := WirS.hide (take_ok w R a c bs p 1 (p : Int) h h1 hs)
  rw [one_at h1] at HT
  generalize bs.getD p 0 = x at *
  have hd : decide (1 < x) = false := by simpa using h8
  obtain ⟨y, hy⟩ : ∃ y, (x == 1) = y := ⟨_, rfl⟩
  rw [hy]
  clear h h1 hs h8
  go_enter Try.func122, Try.ntmps122
  go_wp2_with (go_at_call 197; refine (HT.out).mono ?_; rintro e u ⟨va, vc, rfl, hb, hr, hf⟩; obtain ⟨B, o, rfl, k0⟩ := cell0 hb (by decide); rw [List.getD_cons_zero] at k0; have HR := WirS.hide hr; have HF := WirS.hide hf; clear hr hf hb)
  go_ret
  exact ⟨rfl, HR.out, HF.out⟩
set_option maxRecDepth 10000 in
set_option maxHeartbeats 4000000 in
theorem word_fault (w : World) (R : Nat) (a : Option Addr) (c : Nat) (bs : List Int) (p fe fa : Int) (h : RR w R a c bs p fe fa) (hne : fe ≠ 0) :
    Calls Try.prog 119 #[.pointer (some ⟨R, 0, none⟩)] w fun e w' => e = .returned (.int .u64 0) ∧ w = w' := by
  have c1 : w.cell? ⟨R, 1, none⟩ = some (.int .i64 p) := h.cell.cell 1
  have HT := WirS.hide (take_fault w R a c bs p fe fa 8 p h hne)
  clear h hne
  go_enter Try.func119, Try.ntmps119
  go_wp2_with (go_at_call 197; refine (HT.out).mono ?_; rintro e _ ⟨rfl, rfl⟩)
  refine wp_loop_rounds 1 ?_
  rw [rounds_succ]
  go_wp2_with fail
  go_ret
  exact ⟨rfl, rfl⟩
set_option maxRecDepth 10000 in
set_option maxHeartbeats 4000000 in
theorem word_short (w : World) (R : Nat) (a : Option Addr) (c : Nat) (bs : List Int) (p : Nat) (h : RR w R a c bs (p : Int) 0 0) (hp : p ≤ bs.length) (hs : bs.length ≤ 1099511627776) (h1 : bs.length < p + 8) :
    Calls Try.prog 119 #[.pointer (some ⟨R, 0, none⟩)] w fun e w' => e = .returned (.int .u64 0) ∧ (∃ q : Int, RR w' R a c bs q 6 (p : Int)) ∧ Fr (fun k => k = R) w w' := by
  have c1 : w.cell? ⟨R, 1, none⟩ = some (.int .i64 (p : Int)) := h.cell.cell 1
  have HT := WirS.hide (take_short w R a c bs p 8 (p : Int) h hp h1 hs (by omega))
  clear h hp h1 hs
  go_enter Try.func119, Try.ntmps119
  go_wp2_with (go_at_call 197; refine (HT.out).mono ?_; rintro e u ⟨rfl, hr, hf⟩; have HR := WirS.hide hr; have HF := WirS.hide hf; clear hr hf)
  refine wp_loop_rounds 1 ?_
  rw [rounds_succ]
  go_wp2_with fail
  go_ret
  exact ⟨rfl, ⟨_, HR.out⟩, HF.out⟩
set_option maxRecDepth 10000 in
set_option maxHeartbeats 4000000 in
theorem word_ok (w : World) (R : Nat) (a : Option Addr) (c : Nat) (bs : List Int) (p : Nat) (h : RR w R a c bs (p : Int) 0 0) (hs : bs.length ≤ 1099511627776) (h1 : p + 8 ≤ bs.length) (hr : rng bs) :
    Calls Try.prog 119 #[.pointer (some ⟨R, 0, none⟩)] w fun e w' => e = .returned (.int .u64 (vL ((bs.drop p).take 8))) ∧ RR w' R a c bs ((p + 8 : Nat) : Int) 0 0 ∧ Fr (fun k => k = R) w w' := by
  have c1 : w.cell? ⟨R, 1, none⟩ = some (.int .i64 (p : Int)) := h.cell.cell 1
  have HT := WirS.hide (take_ok w R a c bs p 8 (p : Int) h h1 hs)
  obtain ⟨zs, hzs⟩ : ∃ zs, (bs.drop p).take 8 = zs := ⟨_, rfl⟩
  have hzl : zs.length = 8 := by rw [← hzs, List.length_take, List.length_drop]; omega
  have hzr : ∀ x ∈ zs, 0 ≤ x ∧ x < 256 := by rw [← hzs]; exact sub_rng hr p 8
  rw [hzs] at HT ⊢
  have HZL := WirS.hide hzl
  clear h h1 hs hzs hr hzl
  go_enter Try.func119, Try.ntmps119
  go_upto_region 4 with (go_at_call 197; refine (HT.out).mono ?_; rintro e u ⟨va, vc, rfl, hb, hr, hf⟩; obtain ⟨B2, o2, rfl, hc⟩ := cells_of hb (by decide); have HC := WirS.hide hc; have HR := WirS.hide hr; have HF := WirS.hide hf; clear hr hf hb hc)
  go_loop [3, 5] (fun t i => ∃ k : Nat, k ≤ 8 ∧ i = .int .i64 k ∧ t = .int .u64 (vL (zs.take k))) (fun _ i => 8 - (intOf i).toNat)
  case atStart => exact ⟨0, Nat.zero_le _, rfl, rfl⟩
  case round =>
    obtain ⟨k, hk, rfl, rfl⟩ := hrel
    by_cases hlt : k < 8
    · have hcell := HC.out k hlt
      have hb := vL_bound zs hzr k (by rw [HZL.out]; exact hk)
      have hx : 0 ≤ zs.getD k 0 ∧ zs.getD k 0 < 256 := by
        have hl : k < zs.length := by rw [HZL.out]; exact hlt
        have := hzr zs[k] (List.getElem_mem hl)
        simpa [List.getD, hl] using this
      have hs := WirS.hide (show vL (zs.take (k + 1)) = vL (zs.take k) * 256 + zs.getD k 0 by rw [take_snoc zs k (by rw [HZL.out]; exact hlt), vL_snoc])
      generalize zs.getD k 0 = x at hcell hx hs
      have hp : (256 : Int) ^ k ≤ 256 ^ 7 := by have := Nat.pow_le_pow_right (n := 256) (by decide) (show k ≤ 7 by omega); have h2 : ((256 ^ k : Nat) : Int) ≤ ((256 ^ 7 : Nat) : Int) := Int.ofNat_le.2 this; rw [Int.natCast_pow, Int.natCast_pow] at h2; exact h2
      generalize vL (zs.take k) = m at hb hs ⊢
      have h256 := Int.lt_of_lt_of_le hb.2 hp
      have hm := hb.1
      obtain ⟨hx0, hx1⟩ := hx
      have hor := or256 m x hm (by omega) hx0 hx1
      clear hb hp
      go_wp2_with fail
      exact ⟨⟨k + 1, by omega, by go_num, by rw [hs.out]⟩, by simp [intOf]; omega⟩
    · obtain rfl : k = 8 := by omega
      have HV := WirS.hide (show vL (zs.take 8) = vL zs by rw [List.take_of_length_le (by rw [HZL.out]; exact Nat.le_refl _)])
      generalize vL (zs.take 8) = m at HV ⊢
      go_wp2_with fail
      go_ret
      exact ⟨by rw [← HV.out]; rfl, HR.out, HF.out⟩
end ValSG
end Go.Proofs.Ythcemghamdmjmaa

namespace Go.Proofs.Ythcemghamdmjmaa
namespace ValSH
open Go.RowKit
open BlkM WirM WirS ValSA ValSB ValSC ValSD ValSG ValK
open WirRT (rng)

set_option maxRecDepth 10000 in
set_option maxHeartbeats 4000000 in
theorem bytes_a (w : World) (R : Nat) (a : Option Addr) (c : Nat) (bs : List Int) (most : Int) (_ : -9223372036854775808 ≤ most) (_ : most ≤ 9223372036854775807) (p fe0 fa0 fe fa : Int) (h1 : RR w R a c bs p fe0 fa0) (hne : fe ≠ 0) (hN : Calls Try.prog 114 #[.pointer (some ⟨R, 0, none⟩)] w fun e w' => e = .returned (.int .i64 0) ∧ (∃ q : Int, RR w' R a c bs q fe fa) ∧ Fr (fun k => k = R) w w') :
    Calls Try.prog 116 #[.pointer (some ⟨R, 0, none⟩), .int .i64 most] w fun e w' => e = .returned (.slice none 0 0) ∧ (∃ q : Int, RR w' R a c bs q fe fa) ∧ Fr (fun k => k = R) w w' := by
  have c1 : w.cell? ⟨R, 1, none⟩ = some (.int .i64 p) := h1.cell.cell 1
  have HN := WirS.hide hN
  have HT := WirS.hide (fun (U : World) (q : Int) (hR : RR U R a c bs q fe fa) => take_fault U R a c bs q fe fa 0 p hR hne)
  clear h1 hne hN
  go_enter Try.func116, Try.ntmps116
  go_upto_region 3 with (go_at_call 114; refine (HN.out).mono ?_; rintro e u ⟨rfl, ⟨q, hr⟩, hf⟩; have HR := WirS.hide hr; have HF := WirS.hide hf; clear hr hf)
  clear c1
  go_wp2_with (go_at_call 197; refine (HT.out _ q HR.out).mono ?_; rintro e _ ⟨rfl, rfl⟩)
  go_ret
  exact ⟨rfl, ⟨q, HR.out⟩, HF.out⟩
set_option maxRecDepth 10000 in
set_option maxHeartbeats 4000000 in
theorem bytes_b (w : World) (R : Nat) (a : Option Addr) (c : Nat) (bs : List Int) (most : Int) (_ : -9223372036854775808 ≤ most) (_ : most ≤ 9223372036854775807) (p q n : Nat) (h1 : RR w R a c bs (p : Int) 0 0) (hn9 : (n : Int) ≤ 9223372036854775807) (hN : Calls Try.prog 114 #[.pointer (some ⟨R, 0, none⟩)] w fun e w' => e = .returned (.int .i64 (n : Int)) ∧ RR w' R a c bs (q : Int) 0 0 ∧ Fr (fun k => k = R) w w') (hx : max most 0 < (n : Int)) :
    Calls Try.prog 116 #[.pointer (some ⟨R, 0, none⟩), .int .i64 most] w fun e w' => e = .returned (.slice none 0 0) ∧ (∃ t : Int, RR w' R a c bs t 4 (p : Int)) ∧ Fr (fun k => k = R) w w' := by
  have c1 : w.cell? ⟨R, 1, none⟩ = some (.int .i64 (p : Int)) := h1.cell.cell 1
  have HN := WirS.hide hN
  have hx1 : most < (n : Int) := by omega
  have hx2 : (0 : Int) < (n : Int) := by omega
  have HT := WirS.hide (fun (U : World) (hR : RR U R a c bs (q : Int) 4 (p : Int)) => take_fault U R a c bs (q : Int) 4 (p : Int) (n : Int) (p : Int) hR (by decide))
  clear h1 hN
  go_enter Try.func116, Try.ntmps116
  go_upto_region 3 with (go_at_call 114; refine (HN.out).mono ?_; rintro e u ⟨rfl, hr, hf⟩; have HR := WirS.hide hr; have HF := WirS.hide hf; clear hr hf)
  clear c1
  go_wp2_with (first | (go_at_call 198; refine (fails_ok _ R a c bs (q : Int) 4 (p : Int) HR.out).mono ?_; rintro e u2 ⟨rfl, hr, hf⟩; have HR2 := WirS.hide hr; have HF2 := WirS.hide hf; clear hr hf) | (go_at_call 197; refine (HT.out _ HR2.out).mono ?_; rintro e _ ⟨rfl, rfl⟩))
  go_ret
  exact ⟨rfl, ⟨_, HR2.out⟩, HF.out.trans HF2.out⟩
set_option maxRecDepth 10000 in
set_option maxHeartbeats 4000000 in
theorem bytes_c (w : World) (R : Nat) (a : Option Addr) (c : Nat) (bs : List Int) (most : Int) (_ : -9223372036854775808 ≤ most) (_ : most ≤ 9223372036854775807) (p q n : Nat) (h1 : RR w R a c bs (p : Int) 0 0) (hs : bs.length ≤ 1099511627776) (hn9 : (n : Int) ≤ 9223372036854775807) (hN : Calls Try.prog 114 #[.pointer (some ⟨R, 0, none⟩)] w fun e w' => e = .returned (.int .i64 (n : Int)) ∧ RR w' R a c bs (q : Int) 0 0 ∧ Fr (fun k => k = R) w w') (hq : q ≤ bs.length) (hx : ¬ max most 0 < (n : Int)) (hsh : bs.length < q + n) :
    Calls Try.prog 116 #[.pointer (some ⟨R, 0, none⟩), .int .i64 most] w fun e w' => e = .returned (.slice none 0 0) ∧ (∃ t : Int, RR w' R a c bs t 6 (p : Int)) ∧ Fr (fun k => k = R) w w' := by
  have c1 : w.cell? ⟨R, 1, none⟩ = some (.int .i64 (p : Int)) := h1.cell.cell 1
  have HN := WirS.hide hN
  have HT := WirS.hide (fun (U : World) (hR : RR U R a c bs (q : Int) 0 0) => take_short U R a c bs q n (p : Int) hR hq hsh hs hn9)
  clear h1 hN hs hsh hq
  go_enter Try.func116, Try.ntmps116
  go_upto_region 3 with (go_at_call 114; refine (HN.out).mono ?_; rintro e u ⟨rfl, hr, hf⟩; have HR := WirS.hide hr; have HF := WirS.hide hf; clear hr hf)
  clear c1
  go_wp2_with (go_at_call 197; refine (HT.out _ HR.out).mono ?_; rintro e u2 ⟨rfl, hr, hf⟩; have HR2 := WirS.hide hr; have HF2 := WirS.hide hf; clear hr hf)
  go_ret
  exact ⟨rfl, ⟨_, HR2.out⟩, HF.out.trans HF2.out⟩
set_option maxRecDepth 10000 in
set_option maxHeartbeats 4000000 in
theorem bytes_d (w : World) (R : Nat) (a : Option Addr) (c : Nat) (bs : List Int) (most : Int) (_ : -9223372036854775808 ≤ most) (_ : most ≤ 9223372036854775807) (p q n : Nat) (h1 : RR w R a c bs (p : Int) 0 0) (hs : bs.length ≤ 1099511627776) (_ : (n : Int) ≤ 9223372036854775807) (hN : Calls Try.prog 114 #[.pointer (some ⟨R, 0, none⟩)] w fun e w' => e = .returned (.int .i64 (n : Int)) ∧ RR w' R a c bs (q : Int) 0 0 ∧ Fr (fun k => k = R) w w') (hx : ¬ max most 0 < (n : Int)) (hsh : q + n ≤ bs.length) :
    Calls Try.prog 116 #[.pointer (some ⟨R, 0, none⟩), .int .i64 most] w fun e w' => ∃ va vc, e = .returned (.slice va n vc) ∧ BIn w' (.slice va n vc) ((bs.drop q).take n) ∧ RR w' R a c bs ((q + n : Nat) : Int) 0 0 ∧ Fr (fun k => k = R) w w' ∧ ∀ k, (Value.slice va n vc).ownBlock = some k → w.heap.size ≤ k := by
  have c1 : w.cell? ⟨R, 1, none⟩ = some (.int .i64 (p : Int)) := h1.cell.cell 1
  have HN := WirS.hide hN
  obtain ⟨zs, hzs⟩ : ∃ zs, (bs.drop q).take n = zs := ⟨_, rfl⟩
  have HT := WirS.hide (fun (U : World) (hR : RR U R a c bs (q : Int) 0 0) => take_ok2 U R a c bs q n (p : Int) hR hsh hs)
  rw [hzs] at HT ⊢
  clear h1 hN hs hsh hzs
  go_enter Try.func116, Try.ntmps116
  go_upto_region 3 with (go_at_call 114; refine (HN.out).mono ?_; rintro e u ⟨rfl, hr, hf⟩; have HR := WirS.hide hr; have HF := WirS.hide hf; clear hr hf)
  clear c1
  go_wp2_with (go_at_call 197; refine (HT.out _ HR.out).mono ?_; rintro e u2 ⟨va, vc, rfl, hb, hr, hf, hnb⟩; have HBX := WirS.hide hb; have HNB := WirS.hide hnb; have HR2 := WirS.hide hr; have HF2 := WirS.hide hf; clear hr hf hb hnb)
  go_ret
  exact ⟨va, vc, rfl, HBX.out, HR2.out, HF.out.trans HF2.out, fun k hk => Nat.le_trans HF.out.size (HNB.out k hk)⟩
end ValSH
end Go.Proofs.Ythcemghamdmjmaa

namespace Go.Proofs.Ythcemghamdmjmaa
namespace ValSI
open Go.RowKit
open BlkM WirM WirS ValSA ValSB ValSC ValSD ValSG ValSH ValK
open WirJ (st conv_any)

/-- Text is Bytes, as a text. -/
theorem text_of (w : World) (R : Nat) (most : Int) (zs : List Int) (P : World → Prop) (hB : Calls Try.prog 116 #[.pointer (some ⟨R, 0, none⟩), .int .i64 most] w fun e w' => ∃ va n vc, e = .returned (.slice va n vc) ∧ BIn w' (.slice va n vc) zs ∧ P w') :
    Calls Try.prog 115 #[.pointer (some ⟨R, 0, none⟩), .int .i64 most] w fun e w' => e = .returned (.string (st zs)) ∧ P w' := by
  have HB := WirS.hide hB
  clear hB
  go_enter Try.func115, Try.ntmps115
  go_wp2_with (go_at_call 116; refine (HB.out).mono ?_; rintro e u ⟨va, n, vc, rfl, hb, hp⟩; have hcv := conv_any u va n vc zs hb; have HP := WirS.hide hp; clear hb hp)
  go_ret
  exact ⟨rfl, HP.out⟩

theorem pace_fault (w : World) (R : Nat) (a : Option Addr) (c : Nat) (bs : List Int) (p fe fa : Int) (h : RR w R a c bs p fe fa) (hne : fe ≠ 0) :
    Calls Try.prog 121 #[.pointer (some ⟨R, 0, none⟩)] w fun e w' => e = .returned (.float .f64 0) ∧ w = w' := by
  have c1 : w.cell? ⟨R, 1, none⟩ = some (.int .i64 p) := h.cell.cell 1
  have c2 : w.cell? ⟨R, 2, none⟩ = some (.int .i64 fe) := h.cell.cell 2
  have e1 : (fe == 0) = false := by simpa using hne
  have e2 : (fe != 0) = true := by simpa using hne
  have HT := WirS.hide (word_fault w R a c bs p fe fa h hne)
  clear h hne
  go_enter Try.func121, Try.ntmps121
  go_wp2_with (go_at_call 119; refine (HT.out).mono ?_; rintro e _ ⟨rfl, rfl⟩)
  go_ret
  exact ⟨rfl, rfl⟩
theorem pace_short (w : World) (R : Nat) (a : Option Addr) (c : Nat) (bs : List Int) (p : Nat) (h : RR w R a c bs (p : Int) 0 0) (hp : p ≤ bs.length) (hs : bs.length ≤ 1099511627776) (h1 : bs.length < p + 8) :
    Calls Try.prog 121 #[.pointer (some ⟨R, 0, none⟩)] w fun e w' => e = .returned (.float .f64 0) ∧ (∃ q : Int, RR w' R a c bs q 6 (p : Int)) ∧ Fr (fun k => k = R) w w' := by
  have c1 : w.cell? ⟨R, 1, none⟩ = some (.int .i64 (p : Int)) := h.cell.cell 1
  have HT := WirS.hide (word_short w R a c bs p h hp hs h1)
  clear h hp hs h1
  go_enter Try.func121, Try.ntmps121
  go_wp2_with (go_at_call 119; refine (HT.out).mono ?_; rintro e u ⟨rfl, ⟨q, hr⟩, hf⟩; have d2 : u.cell? ⟨R, 2, none⟩ = some (.int .i64 6) := hr.cell.cell 2; have HR := WirS.hide hr; have HF := WirS.hide hf; clear hr hf)
  go_ret
  exact ⟨rfl, ⟨_, HR.out⟩, HF.out⟩
theorem pace_no (w : World) (R : Nat) (a : Option Addr) (c : Nat) (bs : List Int) (p : Nat) (h : RR w R a c bs (p : Int) 0 0) (hs : bs.length ≤ 1099511627776) (h1 : p + 8 ≤ bs.length) (hr : WirRT.rng bs)
    (hO : ∀ U, Calls Try.prog 199 #[.int .u64 (WirG.vL ((bs.drop p).take 8))] U fun e w' => e = .returned (.tuple #[.float .f64 0, .int .i64 5]) ∧ U = w') :
    Calls Try.prog 121 #[.pointer (some ⟨R, 0, none⟩)] w fun e w' => e = .returned (.float .f64 0) ∧ (∃ q : Int, RR w' R a c bs q 5 (p : Int)) ∧ Fr (fun k => k = R) w w' := by
  have c1 : w.cell? ⟨R, 1, none⟩ = some (.int .i64 (p : Int)) := h.cell.cell 1
  have HT := WirS.hide (word_ok w R a c bs p h hs h1 hr)
  have HO := WirS.hide hO
  generalize WirG.vL ((bs.drop p).take 8) = m at *
  clear h hs h1 hr hO
  go_enter Try.func121, Try.ntmps121
  go_wp2_with (first | (go_at_call 119; refine (HT.out).mono ?_; rintro e u ⟨rfl, hr, hf⟩; have d2 : u.cell? ⟨R, 2, none⟩ = some (.int .i64 0) := hr.cell.cell 2; have HR := WirS.hide hr; have HF := WirS.hide hf; clear hr hf) | (go_at_call 199; refine (HO.out _).mono ?_; rintro e _ ⟨rfl, rfl⟩) | (go_at_call 198; refine (fails_ok _ R a c bs _ 5 (p : Int) HR.out).mono ?_; rintro e u2 ⟨rfl, hr, hf⟩; have HR2 := WirS.hide hr; have HF2 := WirS.hide hf; clear hr hf))
  go_ret
  exact ⟨rfl, ⟨_, HR2.out⟩, HF.out.trans HF2.out⟩
theorem pace_ok (w : World) (R : Nat) (a : Option Addr) (c : Nat) (bs : List Int) (p x : Nat) (h : RR w R a c bs (p : Int) 0 0) (hs : bs.length ≤ 1099511627776) (h1 : p + 8 ≤ bs.length) (hr : WirRT.rng bs)
    (hO : ∀ U, Calls Try.prog 199 #[.int .u64 (WirG.vL ((bs.drop p).take 8))] U fun e w' => e = .returned (.tuple #[.float .f64 x, .int .i64 0]) ∧ U = w') :
    Calls Try.prog 121 #[.pointer (some ⟨R, 0, none⟩)] w fun e w' => e = .returned (.float .f64 x) ∧ RR w' R a c bs ((p + 8 : Nat) : Int) 0 0 ∧ Fr (fun k => k = R) w w' := by
  have c1 : w.cell? ⟨R, 1, none⟩ = some (.int .i64 (p : Int)) := h.cell.cell 1
  have HT := WirS.hide (word_ok w R a c bs p h hs h1 hr)
  have HO := WirS.hide hO
  generalize WirG.vL ((bs.drop p).take 8) = m at *
  clear h hs h1 hr hO
  go_enter Try.func121, Try.ntmps121
  go_wp2_with (first | (go_at_call 119; refine (HT.out).mono ?_; rintro e u ⟨rfl, hr, hf⟩; have d2 : u.cell? ⟨R, 2, none⟩ = some (.int .i64 0) := hr.cell.cell 2; have HR := WirS.hide hr; have HF := WirS.hide hf; clear hr hf) | (go_at_call 199; refine (HO.out _).mono ?_; rintro e _ ⟨rfl, rfl⟩))
  go_ret
  exact ⟨rfl, HR.out, HF.out⟩
end ValSI
end Go.Proofs.Ythcemghamdmjmaa

namespace Go.Proofs.Ythcemghamdmjmaa
namespace ValSJ
open Go.RowKit
open BlkM WirM WirS ValSA ValSB ValSC ValSD ValSG ValK
open WirN (zz)

theorem zset (l : List Int) (k m : Nat) (x : Int) (hk : k < l.length) (hx : l.getD k 0 = x) : ((l.take k) ++ List.replicate (m + 1) 0).set k x = l.take (k + 1) ++ List.replicate m 0 := by
  rw [WirG.take_snoc l k hk, hx, List.append_assoc]
  have hl : (l.take k).length = k := by rw [List.length_take]; omega
  rw [List.set_append_right k x (by omega), hl, Nat.sub_self, List.replicate_succ]
  rfl
def MidHs (u : World) (K : Nat) (zs : List Int) (nn : Nat) (i : Value) (U : World) : Prop :=
  ∃ k : Nat, k ≤ nn ∧ i = .int .i64 (k : Int) ∧ At U K 34 (b8 (zs.take k ++ List.replicate (32 - k) 0)) ∧ Fr (fun j => j = K) u U
set_option maxRecDepth 10000 in
set_option maxHeartbeats 4000000 in
theorem hash_gen (w : World) (R : Nat) (a : Option Addr) (c : Nat) (bs : List Int) (p fe0 fa0 q fe fa : Int) (nn : Nat) (zs : List Int) (hnn : nn ≤ 32) (hzl : zs.length = nn) (h : RR w R a c bs p fe0 fa0)
    (hT : ∀ W0, RR W0 R a c bs p fe0 fa0 → Calls Try.prog 197 #[.pointer (some ⟨R, 0, none⟩), .int .i64 32, .int .i64 p] W0 fun e w' => ∃ va vc, e = .returned (.slice va nn vc) ∧ BIn w' (.slice va nn vc) zs ∧ RR w' R a c bs q fe fa ∧ Fr (fun k => k = R) W0 w' ∧ ∀ k, (Value.slice va nn vc).ownBlock = some k → W0.heap.size ≤ k) :
    Calls Try.prog 117 #[.pointer (some ⟨R, 0, none⟩)] w fun e w' => e = .returned (.agg (b8 (zs ++ List.replicate (32 - nn) 0)).toArray) ∧ RR w' R a c bs q fe fa ∧ Fr (fun k => k = R) w w' := by
  obtain ⟨W0, e0⟩ : ∃ X, X = (w.alloc (.cells (b8 (zz 32)).toArray 34)).alloc (.cells (b8 (zz 32)).toArray 34) := ⟨_, rfl⟩
  have hA : At W0 w.heap.size 34 (b8 (zz 32)) := by rw [e0]; exact At.alloc (At.new w _ _) _
  have hB : At W0 (w.heap.size + 1) 34 (b8 (zz 32)) := by
    rw [e0]
    have := At.new (w.alloc (.cells (b8 (zz 32)).toArray 34)) 34 (b8 (zz 32))
    rw [World.size_alloc] at this
    exact this
  have hb0 : Below w.heap.size w W0 := by rw [e0]; exact Below.alloc (Below.alloc (Below.refl _ _) (Nat.le_refl _) _) (by simp) _
  have hW2 : w.heap.size + 2 ≤ W0.heap.size := by rw [e0]; simp
  have hRl := h.cell.lt
  have h0 := h.below hb0
  have HOL := WirS.hide h.olt
  have HB0 := WirS.hide hb0
  have E0 := WirS.hide e0
  have HNE := WirS.hide (show ¬ w.heap.size = R ∧ ¬ w.heap.size + 1 = R by omega)
  have c1 : W0.cell? ⟨R, 1, none⟩ = some (.int .i64 p) := h0.cell.cell 1
  have HA := WirS.hide hA
  have HK := WirS.hide hB
  have HT := WirS.hide (hT W0 h0)
  have HW2 := WirS.hide hW2
  have HZL := WirS.hide hzl
  clear h hA hB hb0 e0 h0 hT hW2 hzl
  go_enter Try.func117, Try.ntmps117
  go_upto_region 0 with fail
  refine wp_region_lit ?_
  refine sV (.pointer (some ⟨w.heap.size, 0, none⟩)) (w.alloc (.cells (b8 (zz 32)).toArray 34)) (by kernel_rfl) (WirN.al_hash _ _ (by rfl) w) ?_
  simp only [Act.put, List.setIfInBounds_toArray, List.set_cons_succ, List.set_cons_zero]
  go_upto_region 1 with fail
  refine wp_region_lit ?_
  refine sV (.pointer (some ⟨(w.alloc (.cells (b8 (zz 32)).toArray 34)).heap.size, 0, none⟩)) ((w.alloc (.cells (b8 (zz 32)).toArray 34)).alloc (.cells (b8 (zz 32)).toArray 34)) (by kernel_rfl) (WirN.al_hash _ _ (by rfl) (w.alloc (.cells (b8 (zz 32)).toArray 34))) ?_
  simp only [Act.put, List.setIfInBounds_toArray, List.set_cons_succ, List.set_cons_zero]
  rw [← E0.out, World.size_alloc]
  clear E0
  go_upto_region 4 with (go_at_call 197; refine (HT.out).mono ?_; rintro e u ⟨va, vc, rfl, hb, hr, hf, hnb⟩; have HBX := WirS.hide hb; have HNB := WirS.hide hnb; have HR := WirS.hide hr; have HF := WirS.hide hf; clear hr hf hb hnb)
  have hA1 := At.fr HA.out HF.out HNE.out.1
  have hK1 := At.fr HK.out HF.out HNE.out.2
  have HA1 := WirS.hide hA1
  have HST := WirS.hide (show MidHs u (w.heap.size + 1) zs nn (.int .i64 0) u from ⟨0, Nat.zero_le _, rfl, by simpa [zz] using hK1, Fr.refl _ _⟩)
  clear hA1 hK1 HA HK c1
  go_loopw [5] (fun i wr => MidHs u (w.heap.size + 1) zs nn i wr) (fun i _ => nn - (intOf i).toNat)
  case atStart => exact HST.out
  case round =>
    clear HST
    obtain ⟨k, hk, rfl, hK, hFk⟩ := hrel
    have HK := WirS.hide hK
    have HFk := WirS.hide hFk
    by_cases hlt : k < nn
    · obtain ⟨B, o, rfl, hc⟩ := cells_of HBX.out (by omega)
      have hBn : ¬ B = w.heap.size + 1 := fun e => by have h1 := HNB.out B rfl; have h2 := HW2.out; omega
      have hBl : B < u.heap.size := by
        obtain ⟨a', c', e, _, hz⟩ := HBX.out
        have hz2 := hz (List.length_pos_iff.1 (by rw [HZL.out]; omega))
        obtain ⟨B', o', e', hB', _⟩ := hz2
        subst e'
        simp only [Value.slice.injEq, Option.some.injEq, Addr.mk.injEq] at e
        omega
      have y0 := (hFk.cell (p := ⟨B, o + k, none⟩) hBl hBn).trans (hc k hlt)
      have hgd : ∃ v, wr.cell? ⟨w.heap.size + 1, k, none⟩ = some v := ⟨_, (hK.cell k).trans (List.getElem?_eq_getElem (by simp [b8, HZL.out]; omega))⟩
      obtain ⟨v0, k0⟩ := hgd
      have kf := hK.frozen k
      have hkl : (k : Int) < (nn : Int) := by omega
      have hk32 : (k : Int) < 32 := by omega
      have HS := WirS.hide (fun x hx => zset zs k (31 - k) x (by rw [HZL.out]; exact hlt) hx)
      obtain ⟨x, hx⟩ : ∃ x, zs.getD k 0 = x := ⟨_, rfl⟩
      rw [hx] at y0
      have HX := WirS.hide hx
      clear hK hFk hc hx
      go_wp2_with fail
      go_roundw
      case rel =>
        refine ⟨k + 1, by omega, by go_num, ?_, HFk.out.setCell _ k _ (fun _ => rfl)⟩
        have h1 := HK.out.setCell k (.int .u8 x)
        rw [b8_set, show 32 - k = 31 - k + 1 by omega, HS.out x HX.out, show 31 - k = 32 - (k + 1) by omega] at h1
        exact h1
      case measure => simp [intOf]; omega
    · obtain rfl : k = nn := by omega
      have hkl : ¬ (k : Int) < (k : Int) := by omega
      have htk : zs.take k = zs := List.take_of_length_le (by rw [HZL.out]; exact Nat.le_refl _)
      rw [htk] at HK
      obtain ⟨ys, hys⟩ : ∃ ys, zs ++ List.replicate (32 - k) 0 = ys := ⟨_, rfl⟩
      have hyl : ys.length = 32 := by rw [← hys, List.length_append, HZL.out, List.length_replicate]; omega
      rw [hys] at HK
      have HYS := WirS.hide hys
      have HYL := WirS.hide hyl
      clear hK hFk htk hys hyl
      go_upto_region 7 with fail
      refine wp_region_lit ?_
      refine stepLoad (by rfl) _ _ (by rfl) _ (by rfl) HK.out (.array 32 5) 32 Try.underlying34 rfl (by kernel_rfl) (by rw [b8_len]; exact HYL.out) ?_
      simp only [Act.put, List.setIfInBounds_toArray, List.set_cons_succ, List.set_cons_zero]
      have hA2 := At.fr HA1.out HFk.out (by simp)
      refine stepStore (by rfl) _ _ _ (by rfl) _ (b8 ys) (by rfl) (by rfl) hA2 32 (by kernel_rfl) (by rw [b8_len]; rfl) (by rw [b8_len]; exact HYL.out) (oneCells_b8 _) ?_
      have HA3 := WirS.hide (hA2.put (b8 ys))
      have hst : Fr (fun j => j = w.heap.size + 1 ∨ j = w.heap.size) u (wr.setRow w.heap.size (b8 ys).toArray) := (WirO.Fr.setRow (HFk.out.mono (fun j _ e => Or.inl e) : Fr (fun j => j = w.heap.size + 1 ∨ j = w.heap.size) u wr) _ _ (fun _ => .inr rfl))
      have HSTT := WirS.hide hst
      clear hA2 hst
      go_wp2_with fail
      refine bodyPost_ret (retRow HA3.out Try.results117 _ (by rfl) (.array 32 5) 32 Try.underlying34 rfl (by kernel_rfl) (by rw [b8_len]; exact HYL.out)) rfl ?_
      exact ⟨by rw [HYS.out], HR.out.fr HSTT.out (fun e => e.elim (fun e => HNE.out.2 e.symm) (fun e => HNE.out.1 e.symm)) (fun k hk e => by have := HOL.out k hk; omega), ((Fr.of_below HB0.out).trans' HF.out (fun _ _ h => h)).trans' HSTT.out (fun i hi e => absurd e (by omega))⟩
end ValSJ
end Go.Proofs.Ythcemghamdmjmaa

namespace Go.Proofs.Ythcemghamdmjmaa
namespace ValSK
open Go.RowKit
open BlkM WirM WirS ValSA ValSB ValSC ValSD ValSG ValSH ValSI ValSJ ValK
open WirJ (wordO boolO)
open WirO (rowO)
open WirN (zz)
open WirRT (rng)

/-- What is read, and the state behind it: z where there is a fault. -/
def rO {α : Type} (z : α) (o : Nat → Sum Int (α × Nat)) : St → α × St
  | .inl f => (z, .inl f)
  | .inr p => match o p with
    | .inl c => (z, .inl (c, (p : Int)))
    | .inr x => (x.1, .inr x.2)
theorem rO_l {α : Type} {z : α} {o : Nat → Sum Int (α × Nat)} {p : Nat} {c : Int} (h : o p = .inl c) : rO z o (.inr p) = (z, .inl (c, (p : Int))) := by simp only [rO, h]
theorem rO_r {α : Type} {z : α} {o : Nat → Sum Int (α × Nat)} {p : Nat} {x : α × Nat} (h : o p = .inr x) : rO z o (.inr p) = (x.1, .inr x.2) := by simp only [rO, h]
theorem rs_word (w : World) (R : Nat) (a : Option Addr) (c : Nat) (bs : List Int) (s : St) (h : RS w R a c bs s) (hs : bs.length ≤ 1099511627776) (hr : rng bs) :
    Calls Try.prog 119 #[.pointer (some ⟨R, 0, none⟩)] w fun e w' => e = .returned (.int .u64 (rO 0 (wordO bs) s).1) ∧ RS w' R a c bs (rO 0 (wordO bs) s).2 ∧ Fr (fun k => k = R) w w' := by
  cases s with
  | inl f =>
    obtain ⟨hne, p, hp⟩ := h
    exact (word_fault w R a c bs p f.1 f.2 hp hne).mono fun e w' ⟨h1, h2⟩ => by subst h2; exact ⟨h1, ⟨hne, p, hp⟩, Fr.refl _ _⟩
  | inr p =>
    obtain ⟨hp, h⟩ := h
    by_cases h1 : bs.length < p + 8
    · rw [rO_l (show wordO bs p = .inl 6 by unfold wordO; rw [if_pos h1])]
      exact (word_short w R a c bs p h hp hs h1).mono fun e w' ⟨h1, h2, h3⟩ => ⟨h1, ⟨show (6 : Int) ≠ 0 by decide, h2⟩, h3⟩
    · rw [rO_r (show wordO bs p = .inr _ by unfold wordO; rw [if_neg h1])]
      exact (word_ok w R a c bs p h hs (by omega) hr).mono fun e w' ⟨h1, h2, h3⟩ => ⟨h1, ⟨by omega, h2⟩, h3⟩
theorem rs_bool (w : World) (R : Nat) (a : Option Addr) (c : Nat) (bs : List Int) (s : St) (h : RS w R a c bs s) (hs : bs.length ≤ 1099511627776) :
    Calls Try.prog 122 #[.pointer (some ⟨R, 0, none⟩)] w fun e w' => e = .returned (.bool (rO false (boolO bs) s).1) ∧ RS w' R a c bs (rO false (boolO bs) s).2 ∧ Fr (fun k => k = R) w w' := by
  cases s with
  | inl f =>
    obtain ⟨hne, p, hp⟩ := h
    exact (bool_fault w R a c bs p f.1 f.2 hp hne).mono fun e w' ⟨h1, h2⟩ => by subst h2; exact ⟨h1, ⟨hne, p, hp⟩, Fr.refl _ _⟩
  | inr p =>
    obtain ⟨hp, h⟩ := h
    by_cases h1 : bs.length < p + 1
    · rw [rO_l (show boolO bs p = .inl 6 by unfold boolO; rw [if_pos h1])]
      exact (bool_short w R a c bs p h hp hs h1).mono fun e w' ⟨h1, h2, h3⟩ => ⟨h1, ⟨show (6 : Int) ≠ 0 by decide, h2⟩, h3⟩
    · by_cases h8 : 1 < bs.getD p 0
      · rw [rO_l (show boolO bs p = .inl 5 by unfold boolO; rw [if_neg h1, if_pos h8])]
        exact (bool_big w R a c bs p h hs (by omega) h8).mono fun e w' ⟨h1, h2, h3⟩ => ⟨h1, ⟨show (5 : Int) ≠ 0 by decide, h2⟩, h3⟩
      · rw [rO_r (show boolO bs p = .inr _ by unfold boolO; rw [if_neg h1, if_neg h8])]
        exact (bool_ok w R a c bs p h hs (by omega) h8).mono fun e w' ⟨h1, h2, h3⟩ => ⟨h1, ⟨by omega, h2⟩, h3⟩
theorem rs_hash (w : World) (R : Nat) (a : Option Addr) (c : Nat) (bs : List Int) (s : St) (h : RS w R a c bs s) (hs : bs.length ≤ 1099511627776) :
    Calls Try.prog 117 #[.pointer (some ⟨R, 0, none⟩)] w fun e w' => e = .returned (.agg (b8 (rO (zz 32) (rowO 32 bs) s).1).toArray) ∧ RS w' R a c bs (rO (zz 32) (rowO 32 bs) s).2 ∧ Fr (fun k => k = R) w w' := by
  cases s with
  | inl f =>
    obtain ⟨hne, p, hp⟩ := h
    refine (hash_gen w R a c bs p f.1 f.2 p f.1 f.2 0 [] (by omega) rfl hp (fun W0 h0 => (take_fault W0 R a c bs p f.1 f.2 32 p h0 hne).mono fun e w' ⟨h1, h2⟩ => by subst h2; exact ⟨none, 0, h1, BIn.nil _, h0, Fr.refl _ _, fun k hk => by simp [Value.ownBlock] at hk⟩)).mono fun e w' ⟨h1, h2, h3⟩ => ⟨h1, ⟨hne, p, h2⟩, h3⟩
  | inr p =>
    obtain ⟨hp, h⟩ := h
    by_cases h1 : bs.length < p + 32
    · rw [rO_l (show rowO 32 bs p = .inl 6 by unfold rowO; rw [if_pos h1])]
      refine (hash_gen w R a c bs p 0 0 p 6 p 0 [] (by omega) rfl h (fun W0 h0 => (take_short W0 R a c bs p 32 p h0 hp h1 hs (by omega)).mono fun e w' ⟨h1, h2, h3⟩ => ⟨none, 0, h1, BIn.nil _, h2, h3, fun k hk => by simp [Value.ownBlock] at hk⟩)).mono fun e w' ⟨h1, h2, h3⟩ => ⟨h1, ⟨show (6 : Int) ≠ 0 by decide, _, h2⟩, h3⟩
    · rw [rO_r (show rowO 32 bs p = .inr _ by unfold rowO; rw [if_neg h1])]
      have hl : ((bs.drop p).take 32).length = 32 := by rw [List.length_take, List.length_drop]; omega
      refine (hash_gen w R a c bs p 0 0 ((p + 32 : Nat) : Int) 0 0 32 ((bs.drop p).take 32) (by omega) hl h (fun W0 h0 => (take_ok2 W0 R a c bs p 32 p h0 (by omega) hs).mono fun e w' ⟨va, vc, h1, h2, h3, h4, h5⟩ => ⟨va, vc, h1, h2, h3, h4, h5⟩)).mono fun e w' ⟨h1, h2, h3⟩ => ⟨by rw [h1]; simp, ⟨by omega, h2⟩, h3⟩

open WirJ (numO sizedO)
/-- What Num answers is a number of the machine. -/
theorem numO_bd {bs : List Int} (hr : rng bs) {p : Nat} {x : Int × Nat} (h : numO bs p = .inr x) : 0 ≤ x.1 ∧ x.1 ≤ 9223372036854775807 ∧ x.2 ≤ bs.length := by
  have h1 := rN_ok hr (.inr p)
  simp only [rN, h] at h1
  refine ⟨h1.1, h1.2, ?_⟩
  unfold numO at h
  repeat' split at h
  all_goals first | (cases h; omega) | (simp at h; done) | (simp at h; rw [← h]; simp; omega)
theorem rs_bytes (w : World) (R : Nat) (a : Option Addr) (c : Nat) (bs : List Int) (s : St) (most : Int) (hm1 : -9223372036854775808 ≤ most) (hm2 : most ≤ 9223372036854775807) (h : RS w R a c bs s) (hs : bs.length ≤ 1099511627776) (hr : rng bs) :
    Calls Try.prog 116 #[.pointer (some ⟨R, 0, none⟩), .int .i64 most] w fun e w' => ∃ va n vc, e = .returned (.slice va n vc) ∧ BIn w' (.slice va n vc) (rO [] (fun p => sizedO bs p most) s).1 ∧ RS w' R a c bs (rO [] (fun p => sizedO bs p most) s).2 ∧ Fr (fun k => k = R) w w' ∧ ∀ k, (Value.slice va n vc).ownBlock = some k → w.heap.size ≤ k := by
  have nn : ∀ k, (Value.slice none 0 0).ownBlock = some k → w.heap.size ≤ k := fun k hk => by simp [Value.ownBlock] at hk
  cases s with
  | inl f =>
    obtain ⟨hne, p, hp⟩ := h
    refine (bytes_a w R a c bs most hm1 hm2 p f.1 f.2 f.1 f.2 hp hne ((num_fault w R a c bs p f.1 f.2 hp hne).mono fun e w' ⟨h1, h2⟩ => by subst h2; exact ⟨h1, ⟨p, hp⟩, Fr.refl _ _⟩)).mono fun e w' ⟨h1, h2, h3⟩ => ⟨none, 0, 0, h1, BIn.nil _, ⟨hne, h2⟩, h3, nn⟩
  | inr p =>
    have hN := rs_num w R a c bs (.inr p) h hs hr
    obtain ⟨hp, h⟩ := h
    rcases hx : numO bs p with cd | ⟨x, q⟩
    · have e1 : rN bs (.inr p) = (0, .inl (cd, (p : Int))) := by simp only [rN, hx]
      rw [e1] at hN
      rw [rO_l (show sizedO bs p most = .inl cd by unfold sizedO; rw [hx])]
      by_cases hc : cd = 0
      · exfalso
        subst hc
        unfold numO at hx
        repeat' split at hx
        all_goals simp at hx
      · refine (bytes_a w R a c bs most hm1 hm2 p 0 0 cd p h hc (hN.mono fun e w' ⟨h1, h2, h3⟩ => ⟨h1, h2.2, h3⟩)).mono fun e w' ⟨h1, h2, h3⟩ => ⟨none, 0, 0, h1, BIn.nil _, ⟨hc, h2⟩, h3, nn⟩
    · obtain ⟨b1, b2, b3⟩ := numO_bd hr hx
      simp only at b1 b2 b3
      obtain ⟨n, rfl⟩ : ∃ n : Nat, x = (n : Int) := ⟨x.toNat, by omega⟩
      have e1 : rN bs (.inr p) = ((n : Int), .inr q) := by simp only [rN, hx]
      rw [e1] at hN
      have hN2 := hN.mono fun e w' (h : e = .returned (.int .i64 (n : Int)) ∧ RS w' R a c bs (.inr q) ∧ Fr (fun k => k = R) w w') => (show e = .returned (.int .i64 (n : Int)) ∧ RR w' R a c bs (q : Int) 0 0 ∧ Fr (fun k => k = R) w w' from ⟨h.1, h.2.1.2, h.2.2⟩)
      by_cases hx2 : max most 0 < (n : Int)
      · rw [rO_l (show sizedO bs p most = .inl 4 by unfold sizedO; rw [hx]; simp only [hx2, if_true])]
        exact (bytes_b w R a c bs most hm1 hm2 p q n h b2 hN2 hx2).mono fun e w' ⟨h1, h2, h3⟩ => ⟨none, 0, 0, h1, BIn.nil _, ⟨show (4 : Int) ≠ 0 by decide, h2⟩, h3, nn⟩
      · by_cases hsh : bs.length < q + n
        · rw [rO_l (show sizedO bs p most = .inl 6 by unfold sizedO; rw [hx]; simp only [hx2, if_false, Int.toNat_natCast, hsh, if_true])]
          exact (bytes_c w R a c bs most hm1 hm2 p q n h hs b2 hN2 b3 hx2 hsh).mono fun e w' ⟨h1, h2, h3⟩ => ⟨none, 0, 0, h1, BIn.nil _, ⟨show (6 : Int) ≠ 0 by decide, h2⟩, h3, nn⟩
        · rw [rO_r (show sizedO bs p most = .inr ((bs.drop q).take n, q + n) by unfold sizedO; rw [hx]; simp only [hx2, if_false, Int.toNat_natCast, hsh])]
          exact (bytes_d w R a c bs most hm1 hm2 p q n h hs b2 hN2 hx2 (by omega)).mono fun e w' ⟨va, vc, h1, h2, h3, h4, h5⟩ => ⟨va, n, vc, h1, h2, ⟨by omega, h3⟩, h4, h5⟩
end ValSK
end Go.Proofs.Ythcemghamdmjmaa

namespace Go.Proofs.Ythcemghamdmjmaa
namespace ValSL
open Go.RowKit
open BlkM WirM WirS ValSA ValSB ValSC ValSD ValSG ValSH ValSI ValSJ ValSK ValK
open WirJ (sizedO st)
open WirW (paceO)
open WirG (vL vL_lt)
open WirH (sub_rng)
open WirRT (rng)

theorem rs_text (w : World) (R : Nat) (a : Option Addr) (c : Nat) (bs : List Int) (s : St) (most : Int) (hm1 : -9223372036854775808 ≤ most) (hm2 : most ≤ 9223372036854775807) (h : RS w R a c bs s) (hs : bs.length ≤ 1099511627776) (hr : rng bs) :
    Calls Try.prog 115 #[.pointer (some ⟨R, 0, none⟩), .int .i64 most] w fun e w' => e = .returned (.string (st (rO [] (fun p => sizedO bs p most) s).1)) ∧ RS w' R a c bs (rO [] (fun p => sizedO bs p most) s).2 ∧ Fr (fun k => k = R) w w' :=
  text_of w R most _ (fun w' => RS w' R a c bs (rO [] (fun p => sizedO bs p most) s).2 ∧ Fr (fun k => k = R) w w') ((rs_bytes w R a c bs s most hm1 hm2 h hs hr).mono fun _ _ ⟨va, n, vc, h1, h2, h3, h4, _⟩ => ⟨va, n, vc, h1, h2, h3, h4⟩)
theorem rs_pace (w : World) (R : Nat) (a : Option Addr) (c : Nat) (bs : List Int) (s : St) (h : RS w R a c bs s) (hs : bs.length ≤ 1099511627776) (hr : rng bs) :
    Calls Try.prog 121 #[.pointer (some ⟨R, 0, none⟩)] w fun e w' => e = .returned (.float .f64 (rO 0 (paceO bs) s).1) ∧ RS w' R a c bs (rO 0 (paceO bs) s).2 ∧ Fr (fun k => k = R) w w' := by
  cases s with
  | inl f =>
    obtain ⟨hne, p, hp⟩ := h
    exact (pace_fault w R a c bs p f.1 f.2 hp hne).mono fun e w' ⟨h1, h2⟩ => by subst h2; exact ⟨h1, ⟨hne, p, hp⟩, Fr.refl _ _⟩
  | inr p =>
    obtain ⟨hp, h⟩ := h
    by_cases h1 : bs.length < p + 8
    · rw [rO_l (show paceO bs p = .inl 6 by unfold paceO; rw [if_pos h1])]
      exact (pace_short w R a c bs p h hp hs h1).mono fun e w' ⟨h1, h2, h3⟩ => ⟨h1, ⟨show (6 : Int) ≠ 0 by decide, h2⟩, h3⟩
    · have hv := (vL_lt ((bs.drop p).take 8) (sub_rng hr p 8)).1
      obtain ⟨m, hm⟩ : ∃ m : Nat, vL ((bs.drop p).take 8) = (m : Int) := ⟨(vL ((bs.drop p).take 8)).toNat, by omega⟩
      have hmt : (vL ((bs.drop p).take 8)).toNat = m := by omega
      by_cases hc : FltC.canon m = m
      · rw [rO_r (show paceO bs p = .inr (m, p + 8) by unfold paceO; rw [if_neg h1, hmt, if_pos hc])]
        exact (pace_ok w R a c bs p m h hs (by omega) hr (fun U => by rw [hm]; exact PaceA.rof_ok m U hc)).mono fun e w' ⟨h1, h2, h3⟩ => ⟨h1, ⟨by omega, h2⟩, h3⟩
      · rw [rO_l (show paceO bs p = .inl 5 by unfold paceO; rw [if_neg h1, hmt, if_neg hc])]
        exact (pace_no w R a c bs p h hs (by omega) hr (fun U => by rw [hm]; exact PaceA.rof_no m U hc)).mono fun e w' ⟨h1, h2, h3⟩ => ⟨h1, ⟨show (5 : Int) ≠ 0 by decide, h2⟩, h3⟩
end ValSL
end Go.Proofs.Ythcemghamdmjmaa

