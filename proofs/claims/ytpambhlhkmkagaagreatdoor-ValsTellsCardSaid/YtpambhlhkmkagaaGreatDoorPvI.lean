/-
  WirBC, WrwA, WrwB, WrtA, WirBE, in one text.
-/
import Derived.Test.YtpambhlhkmkagaaGreatDoorPvH
import Derived.Test.YtpambhlhkmkagaaGreatDoorBlkM
import Derived.Test.YtpambhlhkmkagaaGreatDoorWirM
import Derived.Test.YtpambhlhkmkagaaGreatDoorWirS
import Derived.Test.YtpambhlhkmkagaaGreatDoorPvD
import Derived.Test.YtpambhlhkmkagaaGreatDoorPvE
import Derived.Test.YtpambhlhkmkagaaGreatDoorPvF
import Derived.Deep.AppendSrc
import Derived.ChangeKeysEq
namespace Go.Proofs.YtpambhlhkmkagaaGreatDoor
namespace WirBC
open Go.RowKit PaceA
open BlkM WirM WirS WirA WirB WirC WirD WirE WirF WirG WirH WirI WirJ WirK WirL WirN WirO WirP WirQ WirR WirT WirU WirX WirZ WirNA WirRT

theorem bl_up (n : Nat) : ∀ x, x ≤ n → x < 2 ^ 64 → x < 2 ^ Lib.bitLen x := by
  induction n with
  | zero => intro x hx _; obtain rfl : x = 0 := by omega
            decide
  | succ n ih =>
    intro x hx h
    by_cases h0 : x = 0
    · subst h0; decide
    · have := ih (x / 2) (by omega) (by omega)
      rw [Lib.bitLen_half x h0 h, Nat.pow_add]
      omega
theorem bl_low (n : Nat) : ∀ x, x ≤ n → x ≠ 0 → x < 2 ^ 64 → 2 ^ (Lib.bitLen x - 1) ≤ x := by
  induction n with
  | zero => intro x hx h0; omega
  | succ n ih =>
    intro x hx h0 h
    rw [Lib.bitLen_half x h0 h, Nat.add_sub_cancel_left]
    by_cases h1 : x / 2 = 0
    · rw [h1, show Lib.bitLen 0 = 0 by decide]
      omega
    · have := ih (x / 2) (by omega) h1 (by omega)
      have h2 := bl_pos (x / 2) h1 (by omega)
      rw [show Lib.bitLen (x / 2) = (Lib.bitLen (x / 2) - 1) + 1 by omega, Nat.pow_succ]
      omega
theorem vL_dg : ∀ (k : Nat) (n : Int), 0 ≤ n → n < 256 ^ k → vL (dg n k) = n
  | 0, n, h0, h1 => by
    have : n = 0 := by simp at h1; omega
    subst this
    rfl
  | k + 1, n, h0, h1 => by
    rw [Int.pow_succ] at h1
    rw [dg_snoc, vL_snoc, vL_dg k (n / 256) (by omega) (Int.ediv_lt_of_lt_mul (by decide) h1)]
    omega
theorem nb_up (n : Int) (h0 : 0 ≤ n) (h1 : n < 18446744073709551616) : n < 256 ^ nb n := by
  obtain ⟨x, rfl⟩ := Int.eq_ofNat_of_zero_le h0
  have h := bl_up x x (Nat.le_refl _) (by omega)
  have h2 : x < 256 ^ nb (x : Int) := by
    refine Nat.lt_of_lt_of_le h ?_
    rw [show 256 = 2 ^ 8 from rfl, ← Nat.pow_mul]
    refine Nat.pow_le_pow_right (by decide) ?_
    unfold nb
    rw [Int.toNat_natCast]
    omega
  have := Int.ofNat_lt.2 h2
  rwa [Int.natCast_pow] at this
theorem dg_head (n : Int) (h0 : 0 ≤ n) (h1 : n < 18446744073709551616) (hne : dg n (nb n) ≠ []) : (dg n (nb n)).getD 0 0 ≠ 0 := by
  obtain ⟨x, rfl⟩ := Int.eq_ofNat_of_zero_le h0
  obtain ⟨k, hk⟩ : ∃ k, nb (x : Int) = k + 1 := by
    cases h : nb (x : Int) with
    | zero => rw [h] at hne; exact absurd rfl hne
    | succ k => exact ⟨k, rfl⟩
  have hx : x ≠ 0 := by
    intro e
    subst e
    have : nb ((0 : Nat) : Int) = 0 := by decide
    omega
  have hup := nb_up (x : Int) (by omega) h1
  have hlow := bl_low x x (Nat.le_refl _) hx (by omega)
  have hp := bl_pos x hx (by omega)
  have hL : 8 * k ≤ Lib.bitLen x - 1 := by
    unfold nb at hk
    rw [Int.toNat_natCast] at hk
    omega
  have h2 : 2 ^ (8 * k) ≤ x := Nat.le_trans (Nat.pow_le_pow_right (by decide) hL) hlow
  rw [hk] at hup ⊢
  have hup2 : x < 2 ^ (8 * k) * 256 := by
    have : x < 256 ^ (k + 1) := Int.ofNat_lt.1 (by rw [Int.natCast_pow]; exact hup)
    rw [Nat.pow_mul]
    rwa [Nat.pow_succ] at this
  have hq : x / 2 ^ (8 * k) < 256 := Nat.div_lt_of_lt_mul hup2
  have hq0 : 1 ≤ x / 2 ^ (8 * k) := (Nat.le_div_iff_mul_le (Nat.pow_pos (by decide))).2 (by omega)
  show (x : Int) / 2 ^ (8 * k) % 256 ≠ 0
  have e : (x : Int) / 2 ^ (8 * k) = ((x / 2 ^ (8 * k) : Nat) : Int) := by
    rw [Int.natCast_ediv, Int.natCast_pow]
    rfl
  rw [e]
  omega
theorem numB_dg (n : Int) (h1 : n < 18446744073709551616) : numB n = (nb n : Int) :: dg n (nb n) := by
  unfold numB
  rw [cp_full _ _ (nb_le n h1)]
/-- What lies between two places. -/
theorem fits_mid {bs : List Int} {at' p : Nat} {news : List Int} (h : Fits bs at' p news) : p = at' + news.length ∧ (bs.drop at').take news.length = news := by
  obtain ⟨h1, h2, h3⟩ := h
  have hl := congrArg List.length h3
  simp only [List.length_append, List.length_take] at hl
  have hp : p = at' + news.length := by omega
  refine ⟨hp, ?_⟩
  rw [hp, List.take_add] at h3
  exact (List.append_cancel_left h3).symm
theorem num_oc {bs : List Int} {at' p cut : Nat} {n : Int} (h0 : 0 ≤ n) (h1 : n < 9223372036854775808) (h : Fits bs at' p (numB n)) (hc : cut ≤ bs.length) :
    (p ≤ cut → numO (bs.take cut) at' = .inr (n, p)) ∧ (cut < p → numO (bs.take cut) at' = .inl 6) := by
  have h8 := nb_le n (by omega)
  obtain ⟨hp, hm⟩ := fits_mid h
  rw [numB_dg n (by omega)] at hp hm
  rw [List.length_cons, dg_len] at hp hm
  have hlc : (bs.take cut).length = cut := by rw [List.length_take]; omega
  have hb : at' < bs.length := by have := h.2.1; omega
  rw [List.drop_eq_getElem_cons hb, List.take_succ_cons, List.cons.injEq] at hm
  obtain ⟨hd, hr⟩ := hm
  have hget : at' < cut → (bs.take cut).getD at' 0 = (nb n : Int) := fun hlt => by
    rw [List.getD_eq_getElem?_getD, List.getElem?_take, if_pos hlt, List.getElem?_eq_getElem hb, hd]
    rfl
  constructor
  · intro hpc
    have hg := hget (by omega)
    have hmid : ((bs.take cut).drop (at' + 1)).take (nb n) = dg n (nb n) := by
      rw [List.drop_take, List.take_take, Nat.min_eq_left (by omega)]
      exact hr
    unfold numO
    rw [hlc, if_neg (by omega), hg, if_neg (by omega), Int.toNat_natCast, if_neg (by omega), hmid]
    have hv := vL_dg (nb n) n h0 (nb_up n h0 (by omega))
    rw [if_neg (by
      rintro (⟨h5, h6⟩ | h6)
      · exact dg_head n h0 (by omega) h5 h6
      · rw [hv] at h6; omega), hv]
    rw [show at' + 1 + nb n = p by omega]
  · intro hcp
    unfold numO
    rw [hlc]
    by_cases h2 : cut < at' + 1
    · rw [if_pos h2]
    · rw [if_neg h2, hget (by omega), if_neg (by omega), Int.toNat_natCast, if_pos (by omega)]
theorem row_oc {bs : List Int} {at' p cut n : Nat} {l : List Int} (hn : l.length = n) (h : Fits bs at' p l) (hc : cut ≤ bs.length) : (p ≤ cut → rowO n (bs.take cut) at' = .inr (l, p)) ∧ (cut < p → rowO n (bs.take cut) at' = .inl 6) := by
  obtain ⟨hp, hm⟩ := fits_mid h
  rw [hn] at hp hm
  have hlc : (bs.take cut).length = cut := by rw [List.length_take]; omega
  constructor
  · intro hpc
    unfold rowO
    rw [hlc, if_neg (by omega), List.drop_take, List.take_take, Nat.min_eq_left (by omega), hm, hp]
  · intro hcp
    unfold rowO
    rw [hlc, if_pos (by omega)]
end WirBC
end Go.Proofs.YtpambhlhkmkagaaGreatDoor

namespace Go.Proofs.YtpambhlhkmkagaaGreatDoor
namespace WrwA
open Go.RowKit
open BlkM WirM WirS WirA
open WirB (len_of)
open WirD (nb numB nb_le)
open WirE (NewB)

open WirRT (dg dg_len)
open WirBC (numB_dg nb_up dg_head)

/-- Bytes of a call's own, made behind a world. -/
def NO (w U : World) (v : Value) (zs : List Int) : Prop := WirM.Own U 5 v zs ∧ NewB w v ∧ Below w.heap.size w U
theorem NO.more {w U U' : World} {v : Value} {zs : List Int} (h : NO w U v zs) (hb : Below U.heap.size U U') : NO w U' v zs :=
  ⟨h.1.fr (X := fun _ => False) (Fr.of_below hb) (fun _ _ h => h), h.2.1, h.2.2.trans (hb.mono h.2.2.size)⟩
theorem no_nil (w U : World) (hb : Below w.heap.size w U) : NO w U (.slice none 0 0) [] := ⟨WirM.Own.nil U _, fun k hk => by simp [Value.ownBlock] at hk, hb⟩
theorem no_zero (w U : World) (hb : Below w.heap.size w U) : NO w (U.alloc (.cells #[] 5)) (.slice (some ⟨U.heap.size, 0, none⟩) 0 0) [] :=
  ⟨World.ownsRow_made U #[] 0 (Nat.zero_le _) (Nat.zero_le _) (by simp), fun k hk => by cases hk; exact hb.size, Below.alloc hb hb.size _⟩
theorem no_one (w U : World) (x : Int) (hb : Below w.heap.size w U) : NO w (U.alloc (.cells #[.int .u8 x] 5)) (.slice (some ⟨U.heap.size, 0, none⟩) 1 1) [x] :=
  ⟨⟨rfl, .inr ⟨U.heap.size, 1, #[.int .u8 x], rfl, Nat.zero_le _, heap_alloc_new U _, Nat.le_refl _, by decide, rfl, rfl⟩⟩, fun k hk => by cases hk; exact hb.size, Below.alloc hb hb.size _⟩
/-- What a call that makes bytes answers. -/
def Mk (w : World) (zs : List Int) (e : Ending) (w' : World) : Prop := ∃ a m c, m = zs.length ∧ e = .returned (.slice a m c) ∧ NO w w' (.slice a m c) zs
/-- append, onto bytes of the call's own. -/
theorem cat {w U : World} {d s : Value} {ys zs : List Int} (h : NO w U d ys) (hs : BIn U s zs) (hl : ys.length + zs.length ≤ 1099511627776) :
    ∃ a m c U', m = (ys ++ zs).length ∧ (Builtin.append_ #[35, 35] 35 #[d, s]).run Tryz.prog U = .ok (.slice a m c) U' ∧ NO w U' (.slice a m c) (ys ++ zs) ∧ Fr (fun k => d.ownBlock = some k) U U' := by
  obtain ⟨i0, hi, hz0, hz1, hz2⟩ := info_parts (show (Tryz.prog.info? 5).map (fun i => (i.zero, i.size, i.bytes)) = some (some (.int .u8 0), 1, 1) by kernel_rfl)
  obtain ⟨v1, u1, r1, o1, f1, n1⟩ := app_any (P := Tryz.prog) U 35 35 35 5 i0 _ Tryz.underlying35 hi hz0 hz1 hz2 rfl d s ys zs h.1 (hs.src Tryz.underlying35) hl
  obtain ⟨a, c, rfl⟩ := len_of o1
  refine ⟨a, _, c, u1, rfl, r1, ⟨o1, fun k hk => ?_, h.2.2.trans (f1.below h.2.2.size fun k hk hx => ?_)⟩, f1⟩
  · rcases n1 k hk with hx | hx
    · exact h.2.1 k hx
    · exact Nat.le_trans h.2.2.size hx
  · have := h.2.1 k hx
    omega
theorem wrap8 (n : Int) : IntKind.u8.wrap n = n % 256 := by simp [IntKind.wrap, IntKind.bits, IntKind.signed]
theorem shr8 (n : Int) (k : Nat) : n / 2 ^ (8 * k) / 256 = n / 2 ^ (8 * (k + 1)) := by
  rw [show (2 : Int) ^ (8 * (k + 1)) = 2 ^ (8 * k) * 256 by rw [show 8 * (k + 1) = 8 * k + 8 by omega, Int.pow_add]; rfl, ← Int.ediv_ediv_of_nonneg (Int.pow_nonneg (by decide))]
theorem nb_of (n : Int) (k : Nat) (h0 : 0 ≤ n) (h1 : n < 18446744073709551616) (hk : n / 2 ^ (8 * k) = 0) (hp : k = 0 ∨ 0 < n / 2 ^ (8 * (k - 1))) : nb n = k := by
  have hup := nb_up n h0 h1
  have p256 : ∀ j : Nat, (256 : Int) ^ j = 2 ^ (8 * j) := fun j => by rw [show (256 : Int) = 2 ^ 8 from rfl, ← Int.pow_mul]
  have hlt : ∀ j : Nat, n / 2 ^ (8 * j) = 0 → n < 2 ^ (8 * j) := fun j h => by
    have hpos : (0 : Int) < 2 ^ (8 * j) := Int.pow_pos (by decide)
    have := Int.lt_mul_ediv_self_add (x := n) hpos
    rw [h] at this
    simpa using this
  have hpow : ∀ i j : Nat, i ≤ j → (2 : Int) ^ (8 * i) ≤ 2 ^ (8 * j) := fun i j h => by
    have := Nat.pow_le_pow_right (n := 2) (by decide) (show 8 * i ≤ 8 * j by omega)
    exact_mod_cast this
  rw [p256] at hup
  have hnl := hlt k hk
  rcases Nat.lt_trichotomy (nb n) k with h | h | h
  · rcases hp with rfl | hp
    · omega
    · have := hpow (nb n) (k - 1) (by omega)
      have hz : n / 2 ^ (8 * (k - 1)) = 0 := Int.ediv_eq_zero_of_lt h0 (by omega)
      omega
  · exact h
  · obtain ⟨j, hj⟩ : ∃ j, nb n = j + 1 := ⟨nb n - 1, by omega⟩
    have hne : dg n (nb n) ≠ [] := by rw [hj, dg]; simp
    have hd := dg_head n h0 h1 hne
    rw [hj, dg, List.getD_cons_zero] at hd
    have := hpow k j (by omega)
    have hz : n / 2 ^ (8 * j) = 0 := Int.ediv_eq_zero_of_lt h0 (by omega)
    rw [hz] at hd
    exact absurd rfl hd
def MidN (w : World) (n : Int) (x b : Value) (U : World) : Prop :=
  ∃ (k : Nat) (a : Option Addr) (c : Nat), k ≤ 8 ∧ x = .int .i64 (n / 2 ^ (8 * k)) ∧ b = .slice a k c ∧ (k = 0 ∨ 0 < n / 2 ^ (8 * (k - 1))) ∧ NO w U (.slice a k c) (dg n k)
set_option maxHeartbeats 1600000 in
theorem number_any (w : World) (n : Int) (h0 : 0 ≤ n) (h1 : n < 9223372036854775808) : Calls Tryz.prog 56 #[.int .i64 n] w (Mk w (numB n)) := by
  go_enter Tryz.func56, Tryz.ntmps56
  go_wp2_with fail
  go_loopw [0, 3] (fun x b wr => MidN w n x b wr) (fun x _ _ => (intOf x).toNat)
  case atStart => exact ⟨0, none, 0, by omega, by simp, rfl, .inl rfl, no_nil w w (Below.refl _ _)⟩
  case round =>
    obtain ⟨k, a, c, hk, rfl, rfl, hp, hno⟩ := hrel
    have hq0 : 0 ≤ n / 2 ^ (8 * k) := Int.ediv_nonneg h0 (Int.pow_nonneg (by decide))
    have hqn : n / 2 ^ (8 * k) ≤ n := Int.ediv_le_self _ h0
    have hsh := shr8 n k
    have hdg : [n / 2 ^ (8 * k) % 256] ++ dg n k = dg n (k + 1) := rfl
    have hend : n / 2 ^ (8 * k) = 0 → nb n = k := fun h => nb_of n k h0 (by omega) h hp
    have hk7 : 0 < n / 2 ^ (8 * k) → k ≤ 7 := fun h => by
      rcases Nat.lt_or_ge k 8 with h8 | h8
      · omega
      · obtain rfl : k = 8 := by omega
        rw [show (2 : Int) ^ (8 * 8) = 18446744073709551616 by decide, Int.ediv_eq_zero_of_lt h0 (by omega)] at h
        omega
    rw [← wrap8] at hdg
    obtain ⟨q, hq⟩ : ∃ q, n / 2 ^ (8 * k) = q := ⟨_, rfl⟩
    rw [hq] at hq0 hqn hsh hdg hend hk7 ⊢
    have HN := WirS.hide hno
    by_cases hx : 0 < q
    · have hg : decide (0 < q) = true := decide_eq_true hx
      have hk8 := hk7 hx
      obtain ⟨a1, m1, c1, U1, hm1, r1, no1, _⟩ := cat (no_one w wr (IntKind.u8.wrap q) hno.2.2) (hno.1.bin.below (Below.alloc (Below.refl _ _) (Nat.le_refl _) _)) (by rw [dg_len]; simp; omega)
      rw [hdg] at hm1 no1
      rw [dg_len] at hm1
      subst hm1
      clear hno hend
      go_upto_region 3 with fail
      refine wp_region_lit ?_
      refine sV (.int .i64 q) (wr) (by kernel_rfl) (by kernel_rfl) ?_
      simp only [Act.put, List.setIfInBounds_toArray, List.set_cons_succ, List.set_cons_zero]
      refine sV (.int .u8 (IntKind.u8.wrap q)) (wr) (by kernel_rfl) (by kernel_rfl) ?_
      simp only [Act.put, List.setIfInBounds_toArray, List.set_cons_succ, List.set_cons_zero]
      refine sV (.slice (some ⟨wr.heap.size, 0, none⟩) 1 1) (wr.alloc (.cells #[.int .u8 (IntKind.u8.wrap q)] 5)) (by kernel_rfl) (by kernel_rfl) ?_
      simp only [Act.put, List.setIfInBounds_toArray, List.set_cons_succ, List.set_cons_zero]
      refine sV (.slice a k c) (wr.alloc (.cells #[.int .u8 (IntKind.u8.wrap q)] 5)) (by kernel_rfl) (by kernel_rfl) ?_
      simp only [Act.put, List.setIfInBounds_toArray, List.set_cons_succ, List.set_cons_zero]
      refine sA (by kernel_rfl) 35 35 _ _ (by rfl) (.slice (some ⟨wr.heap.size, 0, none⟩) 1 1) (.slice a k c) (by kernel_rfl) (by kernel_rfl) (.slice a1 (k + 1) c1) (U1) r1 ?_
      simp only [Act.put, List.setIfInBounds_toArray, List.set_cons_succ, List.set_cons_zero]
      go_wp2_with fail
      go_roundw
      case rel => exact ⟨k + 1, a1, c1, by omega, by rw [← hsh], rfl, .inr (by rw [Nat.add_sub_cancel, hq]; exact hx), no1⟩
      case measure => simp [intOf]; omega
    · obtain rfl : q = 0 := by omega
      have hnb := hend rfl
      obtain ⟨a1, m1, c1, U1, hm1, r1, no1, _⟩ := cat (no_one w wr (IntKind.u8.wrap k) hno.2.2) (hno.1.bin.below (Below.alloc (Below.refl _ _) (Nat.le_refl _) _)) (by rw [dg_len, List.length_singleton]; omega)
      have hnB : [IntKind.u8.wrap (k : Int)] ++ dg n k = numB n := by rw [numB_dg n (by omega), hnb, wrap8, Int.emod_eq_of_lt (by omega) (by omega), List.singleton_append]
      rw [hnB] at hm1 no1
      clear hno hdg hnB
      go_upto_region 5 with fail
      refine wp_region_lit ?_
      refine sV (.slice a k c) (wr) (by kernel_rfl) (by kernel_rfl) ?_
      simp only [Act.put, List.setIfInBounds_toArray, List.set_cons_succ, List.set_cons_zero]
      refine sV (.int .i64 k) (wr) (by kernel_rfl) (by kernel_rfl) ?_
      simp only [Act.put, List.setIfInBounds_toArray, List.set_cons_succ, List.set_cons_zero]
      refine sV (.int .u8 (IntKind.u8.wrap k)) (wr) (by kernel_rfl) (by kernel_rfl) ?_
      simp only [Act.put, List.setIfInBounds_toArray, List.set_cons_succ, List.set_cons_zero]
      refine sV (.slice (some ⟨wr.heap.size, 0, none⟩) 1 1) (wr.alloc (.cells #[.int .u8 (IntKind.u8.wrap k)] 5)) (by kernel_rfl) (by kernel_rfl) ?_
      simp only [Act.put, List.setIfInBounds_toArray, List.set_cons_succ, List.set_cons_zero]
      refine sV (.slice a k c) (wr.alloc (.cells #[.int .u8 (IntKind.u8.wrap k)] 5)) (by kernel_rfl) (by kernel_rfl) ?_
      simp only [Act.put, List.setIfInBounds_toArray, List.set_cons_succ, List.set_cons_zero]
      refine sA (by kernel_rfl) 35 35 _ _ (by rfl) (.slice (some ⟨wr.heap.size, 0, none⟩) 1 1) (.slice a k c) (by kernel_rfl) (by kernel_rfl) (.slice a1 m1 c1) (U1) r1 ?_
      simp only [Act.put, List.setIfInBounds_toArray, List.set_cons_succ, List.set_cons_zero]
      go_wp2_with fail
      go_ret
      exact ⟨a1, _, c1, rfl, rfl, by rw [← hm1]; exact no1⟩
end WrwA
end Go.Proofs.YtpambhlhkmkagaaGreatDoor

namespace Go.Proofs.YtpambhlhkmkagaaGreatDoor
namespace WrwB
open Go.RowKit
open BlkM WirM WirS WirA WrwA
open WirB (len_of)
open WirE (NewB)
open WirX (Thg Bag own)

/-- The document's writer in memory: its bytes are a call's own. -/
structure RW (w : World) (X : Nat) (lim : Int) (v : Value) (zs : List Int) (err : Int) : Prop where
  cell : At w X 93 [.int .i64 lim, v, .int .i64 err]
  own : WirM.Own w 5 v zs
  off : v.ownBlock ≠ some X
  low : 0 ≤ lim
  high : lim ≤ 1048576
  fits : (zs.length : Int) ≤ lim
theorem RW.fr {Y : Nat → Prop} {w w' : World} {X : Nat} {lim : Int} {v : Value} {zs : List Int} {err : Int} (h : RW w X lim v zs err) (hf : Fr Y w w') (hX : ∀ k, Xw X v k → ¬ Y k) : RW w' X lim v zs err :=
  ⟨At.fr h.cell hf (hX X (.inl rfl)), h.own.fr hf (fun k hk => hX k (.inr hk)), h.off, h.low, h.high, h.fits⟩
def rwt (X : Nat) (lim : Int) (v : Value) (zs : List Int) (err : Int) : Thg where
  ok w := RW w X lim v zs err
  foot k := Xw X v k
  stable h hf hX := h.fr hf hX
  inside h k hk := by
    rcases hk with rfl | hk
    · exact h.cell.lt
    · exact h.own.lt k hk
/-- What a writing call leaves. -/
def RBW (w0 : World) (l : List Thg) (X : Nat) (lim : Int) (zs' : List Int) (err' : Int) (e : Ending) (w' : World) : Prop := e = .returned (.int .i64 err') ∧ ∃ v', Bag w0 w' (rwt X lim v' zs' err' :: l)
theorem rw_set {w0 w w' : World} {l : List Thg} {X : Nat} {lim : Int} {v : Value} {zs : List Int} {err : Int} (c : Int) (h : Bag w0 w (rwt X lim v zs err :: l)) (e : w' = w.setCell ⟨X, 2, none⟩ (.int .i64 c)) : Bag w0 w' (rwt X lim v zs c :: l) := by
  subst e
  have hh := h.head
  have hF := (Fr.refl (fun k => k = X) w).setCell X 2 (.int .i64 c) (fun _ => rfl)
  exact h.act (hF.mono fun _ _ hx => .inl hx) (show RW _ X lim v zs c from ⟨hh.cell.setCell 2 _, hh.own.fr hF (fun k hk e => hh.off (by rw [hk, e])), hh.off, hh.low, hh.high, hh.fits⟩) (fun _ hk => .inl hk)
set_option maxHeartbeats 1600000 in
theorem put_any (w0 w : World) (l : List Thg) (X : Nat) (lim : Int) (v : Value) (zs : List Int) (err : Int) (a : Option Addr) (n c : Nat) (ns : List Int) (hB : Bag w0 w (rwt X lim v zs err :: l)) (hx : BIn w (.slice a n c) ns) (hn : n ≤ 1099511627776 - 1048576) :
    Calls Tryz.prog 55 #[.pointer (some ⟨X, 0, none⟩), .slice a n c] w (RBW w0 l X lim (putZ lim err zs ns) (putE lim err zs ns.length)) := by
  have h := hB.head
  obtain ⟨va, vc, hv⟩ := len_of h.own
  have hnl : n = ns.length := by obtain ⟨_, _, e, _⟩ := hx; cases e; rfl
  have c0 : w.cell? ⟨X, 0, none⟩ = some (.int .i64 lim) := by rw [h.cell.cell]; rfl
  have c1 : w.cell? ⟨X, 1, none⟩ = some (.slice va zs.length vc) := by rw [h.cell.cell, hv]; rfl
  have c2 : w.cell? ⟨X, 2, none⟩ = some (.int .i64 err) := by rw [h.cell.cell]; rfl
  have hfit := h.fits
  have hlo := h.low
  have hhi := h.high
  have f2 := h.cell.frozen 2
  have HB := WirS.hide hB
  unfold putZ
  rw [← hnl]
  unfold putE
  obtain ⟨k, hk⟩ : ∃ k, k = zs.length := ⟨_, rfl⟩
  rw [← hk] at c1 hfit ⊢
  have w1 : IntKind.i64.wrap (↑k + ↑n) = (k : Int) + (n : Int) := IntWalk.i64_in _ (by omega)
  by_cases he : err = 0
  · subst he
    simp only [ne_eq, not_true_eq_false, if_false]
    by_cases hlim : lim < (k : Int) + (n : Int)
    · rw [if_pos hlim, if_neg (by decide)]
      have hd : decide (lim < (k : Int) + (n : Int)) = true := decide_eq_true hlim
      clear hv hk h hx hB hlim hnl
      go_enter Tryz.func55, Tryz.ntmps55
      go_upto_region 1 with fail
      go_quiet (fail)
      go_wp2_with fail
      go_ret
      exact ⟨rfl, v, rw_set 4 (HB.out.more (below_drewN (Below.refl _ _) _)) rfl⟩
    · rw [if_neg hlim, if_pos rfl]
      have hd : decide (lim < (k : Int) + (n : Int)) = false := decide_eq_false hlim
      have hb0 : ∀ q, Below w.heap.size w (w.drewN q) := fun q => below_drewN (Below.refl _ _) q
      have HH := WirS.hide h
      have hA : ∀ q, ∃ a1 m1 c1 U1 a2 m2 c2 U2, (Builtin.append_ #[35, 35] 35 #[.slice (some ⟨(w.drewN q).heap.size, 0, none⟩) 0 0, .slice va k vc]).run Tryz.prog ((w.drewN q).alloc (.cells #[] 5)) = .ok (.slice a1 m1 c1) U1 ∧
          (Builtin.append_ #[35, 35] 35 #[.slice a1 m1 c1, .slice a n c]).run Tryz.prog U1 = .ok (.slice a2 m2 c2) U2 ∧ NO w U2 (.slice a2 m2 c2) (zs ++ ns) := fun q => by
        have hz := no_zero w (w.drewN q) (hb0 q)
        have hbin := h.own.bin
        rw [hv, ← hk] at hbin
        obtain ⟨a1, m1, c1, U1, _, r1, n1, _⟩ := cat hz (hbin.below hz.2.2) (by simp; omega)
        rw [List.nil_append] at n1
        obtain ⟨a2, m2, c2, U2, _, r2, n2, _⟩ := cat n1 (hx.below n1.2.2) (by omega)
        exact ⟨a1, m1, c1, U1, a2, m2, c2, U2, r1, r2, n2⟩
      have HA := WirS.hide hA
      have HL := WirS.hide (show (((zs ++ ns).length : Nat) : Int) ≤ lim by rw [List.length_append]; omega)
      have HV := WirS.hide (show v = .slice va k vc from by rw [hv, hk])
      clear hv hk h hx hB hlim hA hb0 hnl
      go_enter Tryz.func55, Tryz.ntmps55
      go_upto_region 1 with fail
      go_quiet (fail)
      go_upto_region 4 with fail
      obtain ⟨a1, m1, c1', U1, a2, m2, c2', U2, r1, r2, no2⟩ := HA.out nq
      have hal : Below w.heap.size w ((w.drewN nq).alloc (.cells #[] 5)) := Below.alloc (below_drewN (Below.refl _ _) _) (Nat.le_refl _) _
      have hX := HH.out.cell.lt
      have at2 : At U2 X 93 [.int .i64 lim, v, .int .i64 0] := At.fr (X := fun _ => False) HH.out.cell (Fr.of_below no2.2.2) (fun h => h)
      have cz : ((w.drewN nq).alloc (.cells #[] 5)).cell? ⟨X, 1, none⟩ = some (.slice va k vc) := (hal.cell hX).trans c1
      have hf := at2.frozen 1
      have hf2 := at2.frozen 2
      have hc : U2.cell? ⟨X, 1, none⟩ = some (.slice va k vc) := by rw [at2.cell, ← HV.out]; rfl
      have hc2 : U2.cell? ⟨X, 2, none⟩ = some (.int .i64 0) := by rw [at2.cell]; rfl
      have AT := WirS.hide at2
      have NO2 := WirS.hide no2
      refine wp_region_lit ?_
      refine sV (.pointer (some ⟨X, 0, none⟩)) (w.drewN nq) (by kernel_rfl) (by kernel_rfl) ?_
      simp only [Act.put, List.setIfInBounds_toArray, List.set_cons_succ, List.set_cons_zero]
      refine sV (.slice (some ⟨(w.drewN nq).heap.size, 0, none⟩) 0 0) ((w.drewN nq).alloc (.cells #[] 5)) (by kernel_rfl) (by kernel_rfl) ?_
      simp only [Act.put, List.setIfInBounds_toArray, List.set_cons_succ, List.set_cons_zero]
      refine sV (.pointer (some ⟨X, 0, none⟩)) ((w.drewN nq).alloc (.cells #[] 5)) (by kernel_rfl) (by kernel_rfl) ?_
      simp only [Act.put, List.setIfInBounds_toArray, List.set_cons_succ, List.set_cons_zero]
      refine sV (.pointer (some ⟨X, 0, none⟩)) ((w.drewN nq).alloc (.cells #[] 5)) (by kernel_rfl) (by kernel_rfl) ?_
      simp only [Act.put, List.setIfInBounds_toArray, List.set_cons_succ, List.set_cons_zero]
      refine sV (.pointer (some ⟨X, 1, none⟩)) ((w.drewN nq).alloc (.cells #[] 5)) (by kernel_rfl) (by kernel_rfl) ?_
      simp only [Act.put, List.setIfInBounds_toArray, List.set_cons_succ, List.set_cons_zero]
      refine sP (by kernel_rfl) _ _ (by rfl) ⟨X, 1, none⟩ (by kernel_rfl) (.slice va k vc) cz (by kernel_rfl) ?_
      simp only [Act.put, List.setIfInBounds_toArray, List.set_cons_succ, List.set_cons_zero]
      refine sA (by kernel_rfl) 35 35 _ _ (by rfl) (.slice (some ⟨(w.drewN nq).heap.size, 0, none⟩) 0 0) (.slice va k vc) (by kernel_rfl) (by kernel_rfl) (.slice a1 m1 c1') (U1) r1 ?_
      simp only [Act.put, List.setIfInBounds_toArray, List.set_cons_succ, List.set_cons_zero]
      refine sV (.slice a n c) (U1) (by kernel_rfl) (by kernel_rfl) ?_
      simp only [Act.put, List.setIfInBounds_toArray, List.set_cons_succ, List.set_cons_zero]
      refine sA (by kernel_rfl) 35 35 _ _ (by rfl) (.slice a1 m1 c1') (.slice a n c) (by kernel_rfl) (by kernel_rfl) (.slice a2 m2 c2') (U2) r2 ?_
      simp only [Act.put, List.setIfInBounds_toArray, List.set_cons_succ, List.set_cons_zero]
      clear r1 r2 HA cz no2 at2 hal c0 c1 c2 f2
      go_wp2_with fail
      go_ret
      have n2 := NO2.out
      have h := HH.out
      refine ⟨rfl, .slice a2 m2 c2', (HB.out.act (o' := rwt X lim (.slice a2 m2 c2') (zs ++ ns) 0) ((Fr.of_below n2.2.2).setCell X 1 _ (fun _ => .inl rfl)) ⟨AT.out.setCell 1 _, ?_, ?_, h.low, h.high, HL.out⟩ ?_)⟩
      · exact n2.1.fr (X := fun k => k = X) ((Fr.refl _ U2).setCell X 1 _ (fun _ => rfl)) (fun k hk hx => by have := n2.2.1 k hk; subst hx; omega)
      · intro hk
        have := n2.2.1 X hk
        omega
      · intro k hk
        rcases hk with rfl | hk
        · exact .inl (.inl rfl)
        · exact .inr (n2.2.1 k hk)
  · rw [if_pos he, if_neg he]
    have e1 : (err == 0) = false := by simpa using he
    clear hv hk h hx hB he hnl
    go_enter Tryz.func55, Tryz.ntmps55
    go_upto_region 1 with fail
    go_quiet (fail)
    go_wp2_with fail
    go_ret
    exact ⟨rfl, v, HB.out.more (below_drewN (Below.refl _ _) _)⟩
theorem done_ok (w : World) (X : Nat) (lim : Int) (v : Value) (zs : List Int) (h : RW w X lim v zs 0) :
    Calls Tryz.prog 33 #[.pointer (some ⟨X, 0, none⟩)] w fun e w' => ∃ va vn vc, e = .returned (.tuple #[.slice va vn vc, .int .i64 0]) ∧ NO w w' (.slice va vn vc) zs := by
  obtain ⟨va, vc, hv⟩ := len_of h.own
  have c1 : w.cell? ⟨X, 1, none⟩ = some (.slice va zs.length vc) := by rw [h.cell.cell, hv]; rfl
  have c2 : w.cell? ⟨X, 2, none⟩ = some (.int .i64 0) := by rw [h.cell.cell]; rfl
  have hbin := h.own.bin
  rw [hv] at hbin
  have hz := no_zero w w (Below.refl _ _)
  obtain ⟨a1, m1, c1', U1, _, r1, n1, _⟩ := cat hz (hbin.below hz.2.2) (by have := h.fits; have := h.high; simp; omega)
  rw [List.nil_append] at n1
  have cz : (w.alloc (.cells #[] 5)).cell? ⟨X, 1, none⟩ = some (.slice va zs.length vc) := (hz.2.2.cell h.cell.lt).trans c1
  have N := WirS.hide n1
  obtain ⟨k, hk⟩ : ∃ k, k = zs.length := ⟨_, rfl⟩
  rw [← hk] at r1 cz c1
  clear h hv hbin hz n1 hk
  go_enter Tryz.func33, Tryz.ntmps33
  go_upto_region 3 with fail
  refine wp_region_lit ?_
  refine sV (.slice (some ⟨w.heap.size, 0, none⟩) 0 0) (w.alloc (.cells #[] 5)) (by kernel_rfl) (by kernel_rfl) ?_
  simp only [Act.put, List.setIfInBounds_toArray, List.set_cons_succ, List.set_cons_zero]
  refine sV (.pointer (some ⟨X, 0, none⟩)) (w.alloc (.cells #[] 5)) (by kernel_rfl) (by kernel_rfl) ?_
  simp only [Act.put, List.setIfInBounds_toArray, List.set_cons_succ, List.set_cons_zero]
  refine sV (.pointer (some ⟨X, 0, none⟩)) (w.alloc (.cells #[] 5)) (by kernel_rfl) (by kernel_rfl) ?_
  simp only [Act.put, List.setIfInBounds_toArray, List.set_cons_succ, List.set_cons_zero]
  refine sV (.pointer (some ⟨X, 1, none⟩)) (w.alloc (.cells #[] 5)) (by kernel_rfl) (by kernel_rfl) ?_
  simp only [Act.put, List.setIfInBounds_toArray, List.set_cons_succ, List.set_cons_zero]
  refine sP (by kernel_rfl) _ _ (by rfl) ⟨X, 1, none⟩ (by kernel_rfl) (.slice va k vc) cz (by kernel_rfl) ?_
  simp only [Act.put, List.setIfInBounds_toArray, List.set_cons_succ, List.set_cons_zero]
  refine sA (by kernel_rfl) 35 35 _ _ (by rfl) (.slice (some ⟨w.heap.size, 0, none⟩) 0 0) (.slice va k vc) (by kernel_rfl) (by kernel_rfl) (.slice a1 m1 c1') (U1) r1 ?_
  simp only [Act.put, List.setIfInBounds_toArray, List.set_cons_succ, List.set_cons_zero]
  go_wp2_with fail
  go_ret2
  exact ⟨a1, m1, c1', rfl, N.out⟩
theorem new_any (w : World) (lim : Int) (h0 : 0 ≤ lim) (h1 : lim ≤ 1048576) : Calls Tryz.prog 30 #[.int .i64 lim] w fun e w' => ∃ X, e = .returned (.tuple #[.pointer (some ⟨X, 0, none⟩), .int .i64 0]) ∧ w.heap.size ≤ X ∧ RW w' X lim (.slice none 0 0) [] 0 ∧ Below w.heap.size w w' := by
  have hd : decide (lim < 0) = false := decide_eq_false (by omega)
  have hd2 : decide (1048576 < lim) = false := decide_eq_false (by omega)
  have hA := At.new w 93 [.int .i64 lim, .slice none 0 0, .int .i64 0]
  go_enter Tryz.func30, Tryz.ntmps30
  go_wp2_with fail
  go_ret2
  exact ⟨_, rfl, Nat.le_refl _, ⟨hA, WirM.Own.nil _ _, fun h => by simp [Value.ownBlock] at h, h0, h1, by simpa using h0⟩, Below.alloc (Below.refl _ _) (Nat.le_refl _) _⟩
end WrwB
end Go.Proofs.YtpambhlhkmkagaaGreatDoor

namespace Go.Proofs.YtpambhlhkmkagaaGreatDoor
namespace ValJ
open Go.RowKit
open BlkM WirM WirS
open WirA (WSt Wrote putZ putE)
open WirD (numB numB_len nb_le nb)
open WirE (newB_nil NewB)
open WirX (Thg Bag BW bw_of wtr bag_wtr own bag_own)
open WirAA (box bag_box)

theorem numB_le (n : Int) (h : n < 18446744073709551616) : (numB n).length ≤ 9 := by
  rw [numB_len n h]
  have := nb_le n h
  omega
theorem w_ok {lim : Int} {ys news : List Int} (hl : ((ys.length + news.length : Nat) : Int) ≤ lim) : putE lim 0 ys news.length = 0 ∧ putZ lim 0 ys news = ys ++ news := by
  have h : putE lim 0 ys news.length = 0 := by
    unfold putE
    rw [if_neg (by simp), if_neg (by omega)]
  exact ⟨h, by unfold putZ; rw [if_pos h]⟩
/-- A writing call on the first writer, which has room. -/
def Wr (w0 : World) (l : List Thg) (W : Nat) (lim : Int) (ys : List Int) (e : Ending) (w' : World) : Prop := e = .returned (.int .i64 0) ∧ ∃ v', Bag w0 w' (wtr W lim v' ys 0 :: l)
theorem w_num {w0 w : World} {l : List Thg} {W : Nat} {lim : Int} {v : Value} {ys : List Int} (n : Int) (h : Bag w0 w (wtr W lim v ys 0 :: l)) (h0 : 0 ≤ n) (h1 : n < 9223372036854775808) (hl : ((ys.length + (numB n).length : Nat) : Int) ≤ lim) :
    Calls Tryz.prog 27 #[.pointer (some ⟨W, 0, none⟩), .int .i64 n] w (Wr w0 l W lim (ys ++ numB n)) := by
  obtain ⟨e1, e2⟩ := w_ok hl
  have C := bw_of h (WirE.num_any w W lim v ys 0 n h0 h1 h.head)
  rw [e1, e2] at C
  exact C
end ValJ
end Go.Proofs.YtpambhlhkmkagaaGreatDoor

namespace Go.Proofs.YtpambhlhkmkagaaGreatDoor
namespace WirBE
open Go.RowKit Go.Lib
open BlkM WirM WirS WirP

theorem part8 (l : List Int) (i : Nat) (h : i < l.length) (W : World) : (part 5 (b8 l).toArray (i * 1)).run Tryz.prog W = .ok (.int .u8 (l.getD i 0)) W := by
  have hg := b8_get l i h
  have hb : i < (b8 l).length := by rw [b8_len]; exact h
  rw [List.getElem?_eq_getElem hb] at hg
  have h1 : (b8 l)[i] = Value.int .u8 (l.getD i 0) := Option.some.inj hg
  have ha : (isAgg 5).run Tryz.prog W = .ok false W := by kernel_rfl
  simp [part, Sem.run_bind, ha, hb, h1]
theorem eqItems4 (l m : List Int) (hl : l.length = 4) (hm : m.length = 4) (d : Nat) (W : World) : ∀ is : List Nat, (∀ i ∈ is, i < 4) →
    (Op.eqItems (d + 1) 5 1 (b8 l).toArray (b8 m).toArray is).run Tryz.prog W = .ok (decide (∀ i ∈ is, l.getD i 0 = m.getD i 0)) W
  | [], _ => by simp [Op.eqItems]
  | i :: is, h => by
    have h1 := part8 l i (by rw [hl]; exact h i (by simp)) W
    have h2 := part8 m i (by rw [hm]; exact h i (by simp)) W
    have h3 := eqItems4 l m hl hm d W is (fun j hj => h j (by simp [hj]))
    have h4 : (Op.equalIn (d + 1) 5 (.int .u8 (l.getD i 0)) (.int .u8 (m.getD i 0))).run Tryz.prog W = .ok (l.getD i 0 == m.getD i 0) W := by
      simp [Op.equalIn, run_underlying Tryz.underlying5]
    simp only [Op.eqItems, Sem.run_bind, h1, h2, h4, Result.andThen_ok]
    by_cases e : l.getD i 0 = m.getD i 0
    · have hiff : (∀ j ∈ i :: is, l.getD j 0 = m.getD j 0) ↔ (∀ j ∈ is, l.getD j 0 = m.getD j 0) := ⟨fun h j hj => h j (List.mem_cons_of_mem _ hj), fun h j hj => (List.mem_cons.1 hj).elim (fun x => by rw [x]; exact e) (h j)⟩
      rw [show (l.getD i 0 == m.getD i 0) = true from beq_iff_eq.2 e]
      simp only [Bool.not_true, Bool.false_eq_true, if_false, h3, hiff]
    · have e2 : (l.getD i 0 == m.getD i 0) = false := by simpa using e
      have hf : ¬ (∀ j ∈ i :: is, l.getD j 0 = m.getD j 0) := fun h => e (h i (List.mem_cons_self))
      rw [e2, decide_eq_false hf]
      simp
theorem ext4 {l m : List Int} (hl : l.length = 4) (hm : m.length = 4) : (∀ i ∈ List.range 4, l.getD i 0 = m.getD i 0) ↔ l = m := by
  constructor
  · intro h
    apply List.ext_getElem (by omega)
    intro i h1 h2
    have := h i (List.mem_range.2 (by omega))
    rw [List.getD_eq_getElem?_getD, List.getElem?_eq_getElem h1, List.getD_eq_getElem?_getD, List.getElem?_eq_getElem h2] at this
    exact this
  · rintro rfl i _
    rfl
theorem eqKg (l m : List Int) (hl : l.length = 4) (hm : m.length = 4) (W : World) : (binOp .eql 24 (.agg (b8 l).toArray) (.agg (b8 m).toArray)).run Tryz.prog W = .ok (.bool (decide (l = m))) W := by
  have hi : (Tryz.prog.info? 5).isSome = true := by kernel_rfl
  obtain ⟨i, hi⟩ := Option.isSome_iff_exists.1 hi
  have hc : Tryz.prog.cellsOf 5 = 1 := by kernel_rfl
  have h : (Op.equalIn (9998 + 1 + 1) 24 (.agg (b8 l).toArray) (.agg (b8 m).toArray)).run Tryz.prog W = .ok (decide (l = m)) W := by
    rw [run_equalIn_array W (9998 + 1) (b8 l).toArray (b8 m).toArray Tryz.underlying24 hi, hc, eqItems4 l m hl hm 9998 W (List.range 4) (fun i hi => List.mem_range.1 hi)]
    simp only [ext4 hl hm]
  simp only [binOp]
  simp [Op.equal, Op.maxDepth, h]
end WirBE
end Go.Proofs.YtpambhlhkmkagaaGreatDoor

