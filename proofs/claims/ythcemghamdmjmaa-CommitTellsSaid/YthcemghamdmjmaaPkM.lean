/-
  WirBC, in one text.
-/
import Derived.Test.YthcemghamdmjmaaPkG
namespace Go.Proofs.Ythcemghamdmjmaa
namespace WirBC
open Go.RowKit PaceA FltC
open BlkM WirM WirS WirA WirB WirC WirD WirE WirF WirG WirH WirI WirJ WirK WirL WirN WirO WirP WirQ WirR WirT WirU WirV WirW WirX WirZ WirNA WirRT

theorem bl_up (n : Nat) : ∀ x, x ≤ n → x < 2 ^ 64 → x < 2 ^ Lib.bitLen x := by
  induction n with
  | zero => intro x hx _; obtain rfl : x = 0 := by omega
            decide
  | succ n ih =>
    intro x hx h
    by_cases h0 : x = 0
    · subst h0; decide
    · have := ih (x / 2) (by omega) (by omega)
      rw [Lib.bitLen_half x h0 h, Nat.pow_add]
      omega
theorem bl_low (n : Nat) : ∀ x, x ≤ n → x ≠ 0 → x < 2 ^ 64 → 2 ^ (Lib.bitLen x - 1) ≤ x := by
  induction n with
  | zero => intro x hx h0; omega
  | succ n ih =>
    intro x hx h0 h
    rw [Lib.bitLen_half x h0 h, Nat.add_sub_cancel_left]
    by_cases h1 : x / 2 = 0
    · rw [h1, show Lib.bitLen 0 = 0 by decide]
      omega
    · have := ih (x / 2) (by omega) h1 (by omega)
      have h2 := bl_pos (x / 2) h1 (by omega)
      rw [show Lib.bitLen (x / 2) = (Lib.bitLen (x / 2) - 1) + 1 by omega, Nat.pow_succ]
      omega
theorem vL_dg : ∀ (k : Nat) (n : Int), 0 ≤ n → n < 256 ^ k → vL (dg n k) = n
  | 0, n, h0, h1 => by
    have : n = 0 := by simp at h1; omega
    subst this
    rfl
  | k + 1, n, h0, h1 => by
    rw [Int.pow_succ] at h1
    rw [dg_snoc, vL_snoc, vL_dg k (n / 256) (by omega) (Int.ediv_lt_of_lt_mul (by decide) h1)]
    omega
theorem nb_up (n : Int) (h0 : 0 ≤ n) (h1 : n < 18446744073709551616) : n < 256 ^ nb n := by
  obtain ⟨x, rfl⟩ := Int.eq_ofNat_of_zero_le h0
  have h := bl_up x x (Nat.le_refl _) (by omega)
  have h2 : x < 256 ^ nb (x : Int) := by
    refine Nat.lt_of_lt_of_le h ?_
    rw [show 256 = 2 ^ 8 from rfl, ← Nat.pow_mul]
    refine Nat.pow_le_pow_right (by decide) ?_
    unfold nb
    rw [Int.toNat_natCast]
    omega
  have := Int.ofNat_lt.2 h2
  rwa [Int.natCast_pow] at this
theorem dg_head (n : Int) (h0 : 0 ≤ n) (h1 : n < 18446744073709551616) (hne : dg n (nb n) ≠ []) : (dg n (nb n)).getD 0 0 ≠ 0 := by
  obtain ⟨x, rfl⟩ := Int.eq_ofNat_of_zero_le h0
  obtain ⟨k, hk⟩ : ∃ k, nb (x : Int) = k + 1 := by
    cases h : nb (x : Int) with
    | zero => rw [h] at hne; exact absurd rfl hne
    | succ k => exact ⟨k, rfl⟩
  have hx : x ≠ 0 := by
    intro e
    subst e
    have : nb ((0 : Nat) : Int) = 0 := by decide
    omega
  have hup := nb_up (x : Int) (by omega) h1
  have hlow := bl_low x x (Nat.le_refl _) hx (by omega)
  have hp := bl_pos x hx (by omega)
  have hL : 8 * k ≤ Lib.bitLen x - 1 := by
    unfold nb at hk
    rw [Int.toNat_natCast] at hk
    omega
  have h2 : 2 ^ (8 * k) ≤ x := Nat.le_trans (Nat.pow_le_pow_right (by decide) hL) hlow
  rw [hk] at hup ⊢
  have hup2 : x < 2 ^ (8 * k) * 256 := by
    have : x < 256 ^ (k + 1) := Int.ofNat_lt.1 (by rw [Int.natCast_pow]; exact hup)
    rw [Nat.pow_mul]
    rwa [Nat.pow_succ] at this
  have hq : x / 2 ^ (8 * k) < 256 := Nat.div_lt_of_lt_mul hup2
  have hq0 : 1 ≤ x / 2 ^ (8 * k) := (Nat.le_div_iff_mul_le (Nat.pow_pos (by decide))).2 (by omega)
  show (x : Int) / 2 ^ (8 * k) % 256 ≠ 0
  have e : (x : Int) / 2 ^ (8 * k) = ((x / 2 ^ (8 * k) : Nat) : Int) := by
    rw [Int.natCast_ediv, Int.natCast_pow]
    rfl
  rw [e]
  omega
theorem numB_dg (n : Int) (h1 : n < 18446744073709551616) : numB n = (nb n : Int) :: dg n (nb n) := by
  unfold numB
  rw [cp_full _ _ (nb_le n h1)]
/-- What lies between two places. -/
theorem fits_mid {bs : List Int} {at' p : Nat} {news : List Int} (h : Fits bs at' p news) : p = at' + news.length ∧ (bs.drop at').take news.length = news := by
  obtain ⟨h1, h2, h3⟩ := h
  have hl := congrArg List.length h3
  simp only [List.length_append, List.length_take] at hl
  have hp : p = at' + news.length := by omega
  refine ⟨hp, ?_⟩
  rw [hp, List.take_add] at h3
  exact (List.append_cancel_left h3).symm
theorem fits_cut {bs : List Int} {at' p cut : Nat} {news : List Int} (h : Fits bs at' p news) (hp : p ≤ cut) (hc : cut ≤ bs.length) : Fits (bs.take cut) at' p news := by
  obtain ⟨h1, h2, h3⟩ := h
  refine ⟨h1, by rw [List.length_take]; omega, ?_⟩
  rw [List.take_take, List.take_take, Nat.min_eq_left hp, Nat.min_eq_left (by omega)]
  exact h3
theorem num_oc {bs : List Int} {at' p cut : Nat} {n : Int} (h0 : 0 ≤ n) (h1 : n < 9223372036854775808) (h : Fits bs at' p (numB n)) (hc : cut ≤ bs.length) :
    (p ≤ cut → numO (bs.take cut) at' = .inr (n, p)) ∧ (cut < p → numO (bs.take cut) at' = .inl 6) := by
  have h8 := nb_le n (by omega)
  obtain ⟨hp, hm⟩ := fits_mid h
  rw [numB_dg n (by omega)] at hp hm
  rw [List.length_cons, dg_len] at hp hm
  have hlc : (bs.take cut).length = cut := by rw [List.length_take]; omega
  have hb : at' < bs.length := by have := h.2.1; omega
  rw [List.drop_eq_getElem_cons hb, List.take_succ_cons, List.cons.injEq] at hm
  obtain ⟨hd, hr⟩ := hm
  have hget : at' < cut → (bs.take cut).getD at' 0 = (nb n : Int) := fun hlt => by
    rw [List.getD_eq_getElem?_getD, List.getElem?_take, if_pos hlt, List.getElem?_eq_getElem hb, hd]
    rfl
  constructor
  · intro hpc
    have hg := hget (by omega)
    have hmid : ((bs.take cut).drop (at' + 1)).take (nb n) = dg n (nb n) := by
      rw [List.drop_take, List.take_take, Nat.min_eq_left (by omega)]
      exact hr
    unfold numO
    rw [hlc, if_neg (by omega), hg, if_neg (by omega), Int.toNat_natCast, if_neg (by omega), hmid]
    have hv := vL_dg (nb n) n h0 (nb_up n h0 (by omega))
    rw [if_neg (by
      rintro (⟨h5, h6⟩ | h6)
      · exact dg_head n h0 (by omega) h5 h6
      · rw [hv] at h6; omega), hv]
    rw [show at' + 1 + nb n = p by omega]
  · intro hcp
    unfold numO
    rw [hlc]
    by_cases h2 : cut < at' + 1
    · rw [if_pos h2]
    · rw [if_neg h2, hget (by omega), if_neg (by omega), Int.toNat_natCast, if_pos (by omega)]
theorem row_oc {bs : List Int} {at' p cut n : Nat} {l : List Int} (hn : l.length = n) (h : Fits bs at' p l) (hc : cut ≤ bs.length) : (p ≤ cut → rowO n (bs.take cut) at' = .inr (l, p)) ∧ (cut < p → rowO n (bs.take cut) at' = .inl 6) := by
  obtain ⟨hp, hm⟩ := fits_mid h
  rw [hn] at hp hm
  have hlc : (bs.take cut).length = cut := by rw [List.length_take]; omega
  constructor
  · intro hpc
    unfold rowO
    rw [hlc, if_neg (by omega), List.drop_take, List.take_take, Nat.min_eq_left (by omega), hm, hp]
  · intro hcp
    unfold rowO
    rw [hlc, if_pos (by omega)]
theorem word_oc {bs : List Int} {at' p cut : Nat} {n : Int} (h0 : 0 ≤ n) (h1 : n < 18446744073709551616) (h : Fits bs at' p (wordB n)) (hc : cut ≤ bs.length) : (p ≤ cut → wordO (bs.take cut) at' = .inr (n, p)) ∧ (cut < p → wordO (bs.take cut) at' = .inl 6) := by
  have hr := row_oc (wordB_len n) h hc
  have hv : vL (wordB n) = n := by rw [wordB_dg]; exact vL_dg 8 n h0 (by omega)
  unfold rowO at hr
  unfold wordO
  by_cases h2 : (bs.take cut).length < at' + 8
  · rw [if_pos h2] at hr ⊢
    exact ⟨(fun h => by cases hr.1 h), fun _ => rfl⟩
  · rw [if_neg h2] at hr ⊢
    refine ⟨fun h => ?_, fun h => by cases hr.2 h⟩
    have := hr.1 h
    simp only [Sum.inr.injEq, Prod.mk.injEq] at this ⊢
    rw [this.1]
    exact ⟨hv, this.2⟩
theorem pace_oc {bs : List Int} {at' p cut x : Nat} (hx : x < 18446744073709551616) (hcn : canon x = x) (h : Fits bs at' p (wordB (x : Int))) (hc : cut ≤ bs.length) : (p ≤ cut → paceO (bs.take cut) at' = .inr (x, p)) ∧ (cut < p → paceO (bs.take cut) at' = .inl 6) := by
  have hw := word_oc (by omega) (by omega) h hc
  unfold wordO at hw
  unfold paceO
  by_cases h2 : (bs.take cut).length < at' + 8
  · rw [if_pos h2] at hw ⊢
    exact ⟨(fun h => by cases hw.1 h), fun _ => rfl⟩
  · rw [if_neg h2] at hw ⊢
    refine ⟨fun h => ?_, fun h => by cases hw.2 h⟩
    have := hw.1 h
    simp only [Sum.inr.injEq, Prod.mk.injEq] at this
    rw [this.1, Int.toNat_natCast, if_pos hcn, this.2]
theorem bool_oc {bs : List Int} {at' p cut : Nat} {b : Bool} (h : Fits bs at' p (boolB b)) (hc : cut ≤ bs.length) : (p ≤ cut → boolO (bs.take cut) at' = .inr (b, p)) ∧ (cut < p → boolO (bs.take cut) at' = .inl 6) := by
  obtain ⟨hp, hm⟩ := fits_mid h
  have hlc : (bs.take cut).length = cut := by rw [List.length_take]; omega
  have h1 : (boolB b).length = 1 := rfl
  rw [h1] at hp hm
  constructor
  · intro hpc
    have ho := one_at bs at' (by have := h.2.1; omega)
    rw [ho] at hm
    have hg : (bs.take cut).getD at' 0 = bs.getD at' 0 := by
      rw [List.getD_eq_getElem?_getD, List.getElem?_take, if_pos (by omega), List.getD_eq_getElem?_getD]
    have hb : bs.getD at' 0 = if b then 1 else 0 := by
      unfold boolB at hm
      exact List.head_eq_of_cons_eq hm
    unfold boolO
    rw [hlc, if_neg (by omega), hg, hb, hp]
    cases b <;> rfl
  · intro hcp
    unfold boolO
    rw [hlc, if_pos (by omega)]
theorem sized_oc {bs : List Int} {at' p cut : Nat} {zs : List Int} (hz : zs.length ≤ 1099511627776) (h : Fits bs at' p (numB (zs.length : Int) ++ zs)) (hc : cut ≤ bs.length) :
    (p ≤ cut → sizedO (bs.take cut) at' (zs.length : Int) = .inr (zs, p)) ∧ (cut < p → sizedO (bs.take cut) at' (zs.length : Int) = .inl 6) := by
  obtain ⟨hp, hm⟩ := fits_mid h
  rw [List.length_append] at hp hm
  have hlc : (bs.take cut).length = cut := by rw [List.length_take]; omega
  obtain ⟨q, hq⟩ : ∃ q, q = at' + (numB (zs.length : Int)).length := ⟨_, rfl⟩
  have hlen := h.2.1
  rw [List.take_add] at hm
  have hi := List.append_inj hm (by rw [List.length_take, List.length_drop]; omega)
  have hf : Fits bs at' q (numB (zs.length : Int)) := fits_of _ hq (by omega) hi.1.symm
  have hmid : (bs.drop q).take zs.length = zs := by
    have := hi.2
    rwa [List.drop_drop, ← hq] at this
  have hn := num_oc (by omega) (by omega) hf hc
  have hmx : ¬ max (zs.length : Int) 0 < (zs.length : Int) := by omega
  constructor
  · intro hpc
    unfold sizedO
    rw [hn.1 (by omega)]
    simp only [hmx, if_false, Int.toNat_natCast, hlc]
    rw [if_neg (by omega), List.drop_take, List.take_take, Nat.min_eq_left (by omega), hmid, show q + zs.length = p by omega]
  · intro hcp
    unfold sizedO
    by_cases h2 : q ≤ cut
    · rw [hn.1 h2]
      simp only [hmx, if_false, Int.toNat_natCast, hlc]
      rw [if_pos (by omega)]
    · rw [hn.2 (by omega)]
end WirBC
end Go.Proofs.Ythcemghamdmjmaa

