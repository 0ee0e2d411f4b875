/-
  WrwA, WrwB, WrwC, WrwD, WrwE, in one text.
-/
import Derived.Test.YthhnojnpjbklpaaPkM
import Derived.Test.YthhnojnpjbklpaaPkL
import Derived.Deep.AppendSrc
import Derived.Test.YthhnojnpjbklpaaPkH
import Derived.Test.YthhnojnpjbklpaaPkN
import Derived.Test.YthhnojnpjbklpaaPkF
import Derived.Deep.MidRow
import Derived.Deep.RegionHeld3
namespace Go.Proofs.Ythhnojnpjbklpaa
namespace WrwA
open Go.RowKit
open BlkM WirM WirS WirA
open WirB (len_of)
open WirD (nb numB nb_le)
open WirE (NewB tb)
open WirF (boolB wordB)
open WirRT (dg dg_len wordB_dg)
open WirBC (numB_dg nb_up dg_head)

/-- Bytes of a call's own, made behind a world. -/
def NO (w U : World) (v : Value) (zs : List Int) : Prop := WirM.Own U 5 v zs ∧ NewB w v ∧ Below w.heap.size w U
theorem NO.more {w U U' : World} {v : Value} {zs : List Int} (h : NO w U v zs) (hb : Below U.heap.size U U') : NO w U' v zs :=
  ⟨h.1.fr (X := fun _ => False) (Fr.of_below hb) (fun _ _ h => h), h.2.1, h.2.2.trans (hb.mono h.2.2.size)⟩
theorem no_nil (w U : World) (hb : Below w.heap.size w U) : NO w U (.slice none 0 0) [] := ⟨WirM.Own.nil U _, fun k hk => by simp [Value.ownBlock] at hk, hb⟩
theorem no_zero (w U : World) (hb : Below w.heap.size w U) : NO w (U.alloc (.cells #[] 5)) (.slice (some ⟨U.heap.size, 0, none⟩) 0 0) [] :=
  ⟨World.ownsRow_made U #[] 0 (Nat.zero_le _) (Nat.zero_le _) (by simp), fun k hk => by cases hk; exact hb.size, Below.alloc hb hb.size _⟩
theorem no_one (w U : World) (x : Int) (hb : Below w.heap.size w U) : NO w (U.alloc (.cells #[.int .u8 x] 5)) (.slice (some ⟨U.heap.size, 0, none⟩) 1 1) [x] :=
  ⟨⟨rfl, .inr ⟨U.heap.size, 1, #[.int .u8 x], rfl, Nat.zero_le _, heap_alloc_new U _, Nat.le_refl _, by decide, rfl, rfl⟩⟩, fun k hk => by cases hk; exact hb.size, Below.alloc hb hb.size _⟩
/-- What a call that makes bytes answers. -/
def Mk (w : World) (zs : List Int) (e : Ending) (w' : World) : Prop := ∃ a m c, m = zs.length ∧ e = .returned (.slice a m c) ∧ NO w w' (.slice a m c) zs
/-- append, onto bytes of the call's own. -/
theorem cat {w U : World} {d s : Value} {ys zs : List Int} (h : NO w U d ys) (hs : BIn U s zs) (hl : ys.length + zs.length ≤ 1099511627776) :
    ∃ a m c U', m = (ys ++ zs).length ∧ (Builtin.append_ #[32, 32] 32 #[d, s]).run Try.prog U = .ok (.slice a m c) U' ∧ NO w U' (.slice a m c) (ys ++ zs) ∧ Fr (fun k => d.ownBlock = some k) U U' := by
  obtain ⟨i0, hi, hz0, hz1, hz2⟩ := info_parts (show (Try.prog.info? 5).map (fun i => (i.zero, i.size, i.bytes)) = some (some (.int .u8 0), 1, 1) by kernel_rfl)
  obtain ⟨v1, u1, r1, o1, f1, n1⟩ := app_any (P := Try.prog) U 32 32 32 5 i0 _ Try.underlying32 hi hz0 hz1 hz2 rfl d s ys zs h.1 (hs.src Try.underlying32) hl
  obtain ⟨a, c, rfl⟩ := len_of o1
  refine ⟨a, _, c, u1, rfl, r1, ⟨o1, fun k hk => ?_, h.2.2.trans (f1.below h.2.2.size fun k hk hx => ?_)⟩, f1⟩
  · rcases n1 k hk with hx | hx
    · exact h.2.1 k hx
    · exact Nat.le_trans h.2.2.size hx
  · have := h.2.1 k hx
    omega
theorem wrap8 (n : Int) : IntKind.u8.wrap n = n % 256 := by simp [IntKind.wrap, IntKind.bits, IntKind.signed]
theorem shr8 (n : Int) (k : Nat) : n / 2 ^ (8 * k) / 256 = n / 2 ^ (8 * (k + 1)) := by
  rw [show (2 : Int) ^ (8 * (k + 1)) = 2 ^ (8 * k) * 256 by rw [show 8 * (k + 1) = 8 * k + 8 by omega, Int.pow_add]; rfl, ← Int.ediv_ediv_of_nonneg (Int.pow_nonneg (by decide))]
theorem nb_of (n : Int) (k : Nat) (h0 : 0 ≤ n) (h1 : n < 18446744073709551616) (hk : n / 2 ^ (8 * k) = 0) (hp : k = 0 ∨ 0 < n / 2 ^ (8 * (k - 1))) : nb n = k := by
  have hup := nb_up n h0 h1
  have p256 : ∀ j : Nat, (256 : Int) ^ j = 2 ^ (8 * j) := fun j => by rw [show (256 : Int) = 2 ^ 8 from rfl, ← Int.pow_mul]
  have hlt : ∀ j : Nat, n / 2 ^ (8 * j) = 0 → n < 2 ^ (8 * j) := fun j h => by
    have hpos : (0 : Int) < 2 ^ (8 * j) := Int.pow_pos (by decide)
    have := Int.lt_mul_ediv_self_add (x := n) hpos
    rw [h] at this
    simpa using this
  have hpow : ∀ i j : Nat, i ≤ j → (2 : Int) ^ (8 * i) ≤ 2 ^ (8 * j) := fun i j h => by
    have := Nat.pow_le_pow_right (n := 2) (by decide) (show 8 * i ≤ 8 * j by omega)
    exact_mod_cast this
  rw [p256] at hup
  have hnl := hlt k hk
  rcases Nat.lt_trichotomy (nb n) k with h | h | h
  · rcases hp with rfl | hp
    · omega
    · have := hpow (nb n) (k - 1) (by omega)
      have hz : n / 2 ^ (8 * (k - 1)) = 0 := Int.ediv_eq_zero_of_lt h0 (by omega)
      omega
  · exact h
  · obtain ⟨j, hj⟩ : ∃ j, nb n = j + 1 := ⟨nb n - 1, by omega⟩
    have hne : dg n (nb n) ≠ [] := by rw [hj, dg]; simp
    have hd := dg_head n h0 h1 hne
    rw [hj, dg, List.getD_cons_zero] at hd
    have := hpow k j (by omega)
    have hz : n / 2 ^ (8 * j) = 0 := Int.ediv_eq_zero_of_lt h0 (by omega)
    rw [hz] at hd
    exact absurd rfl hd
def MidN (w : World) (n : Int) (x b : Value) (U : World) : Prop :=
  ∃ (k : Nat) (a : Option Addr) (c : Nat), k ≤ 8 ∧ x = .int .i64 (n / 2 ^ (8 * k)) ∧ b = .slice a k c ∧ (k = 0 ∨ 0 < n / 2 ^ (8 * (k - 1))) ∧ NO w U (.slice a k c) (dg n k)
set_option maxHeartbeats 1600000 in
theorem number_any (w : World) (n : Int) (h0 : 0 ≤ n) (h1 : n < 9223372036854775808) : Calls Try.prog 156 #[.int .i64 n] w (Mk w (numB n)) := by
  go_enter Try.func156, Try.ntmps156
  go_wp2_with fail
  go_loopw [0, 3] (fun x b wr => MidN w n x b wr) (fun x _ _ => (intOf x).toNat)
  case atStart => exact ⟨0, none, 0, by omega, by simp, rfl, .inl rfl, no_nil w w (Below.refl _ _)⟩
  case round =>
    obtain ⟨k, a, c, hk, rfl, rfl, hp, hno⟩ := hrel
    have hq0 : 0 ≤ n / 2 ^ (8 * k) := Int.ediv_nonneg h0 (Int.pow_nonneg (by decide))
    have hqn : n / 2 ^ (8 * k) ≤ n := Int.ediv_le_self _ h0
    have hsh := shr8 n k
    have hdg : [n / 2 ^ (8 * k) % 256] ++ dg n k = dg n (k + 1) := rfl
    have hend : n / 2 ^ (8 * k) = 0 → nb n = k := fun h => nb_of n k h0 (by omega) h hp
    have hk7 : 0 < n / 2 ^ (8 * k) → k ≤ 7 := fun h => by
      rcases Nat.lt_or_ge k 8 with h8 | h8
      · omega
      · obtain rfl : k = 8 := by omega
        rw [show (2 : Int) ^ (8 * 8) = 18446744073709551616 by decide, Int.ediv_eq_zero_of_lt h0 (by omega)] at h
        omega
    rw [← wrap8] at hdg
    obtain ⟨q, hq⟩ : ∃ q, n / 2 ^ (8 * k) = q := ⟨_, rfl⟩
    rw [hq] at hq0 hqn hsh hdg hend hk7 ⊢
    have HN := WirS.hide hno
    by_cases hx : 0 < q
    · have hg : decide (0 < q) = true := decide_eq_true hx
      have hk8 := hk7 hx
      obtain ⟨a1, m1, c1, U1, hm1, r1, no1, _⟩ := cat (no_one w wr (IntKind.u8.wrap q) hno.2.2) (hno.1.bin.below (Below.alloc (Below.refl _ _) (Nat.le_refl _) _)) (by rw [dg_len]; simp; omega)
      rw [hdg] at hm1 no1
      rw [dg_len] at hm1
      subst hm1
      clear hno hend
      go_upto_region 3 with fail
      refine wp_region_lit ?_
      refine sV (.int .i64 q) (wr) (by kernel_rfl) (by kernel_rfl) ?_
      simp only [Act.put, List.setIfInBounds_toArray, List.set_cons_succ, List.set_cons_zero]
      refine sV (.int .u8 (IntKind.u8.wrap q)) (wr) (by kernel_rfl) (by kernel_rfl) ?_
      simp only [Act.put, List.setIfInBounds_toArray, List.set_cons_succ, List.set_cons_zero]
      refine sV (.slice (some ⟨wr.heap.size, 0, none⟩) 1 1) (wr.alloc (.cells #[.int .u8 (IntKind.u8.wrap q)] 5)) (by kernel_rfl) (by kernel_rfl) ?_
      simp only [Act.put, List.setIfInBounds_toArray, List.set_cons_succ, List.set_cons_zero]
      refine sV (.slice a k c) (wr.alloc (.cells #[.int .u8 (IntKind.u8.wrap q)] 5)) (by kernel_rfl) (by kernel_rfl) ?_
      simp only [Act.put, List.setIfInBounds_toArray, List.set_cons_succ, List.set_cons_zero]
      refine sA (by kernel_rfl) 32 32 _ _ (by rfl) (.slice (some ⟨wr.heap.size, 0, none⟩) 1 1) (.slice a k c) (by kernel_rfl) (by kernel_rfl) (.slice a1 (k + 1) c1) (U1) r1 ?_
      simp only [Act.put, List.setIfInBounds_toArray, List.set_cons_succ, List.set_cons_zero]
      go_wp2_with fail
      go_roundw
      case rel => exact ⟨k + 1, a1, c1, by omega, by rw [← hsh], rfl, .inr (by rw [Nat.add_sub_cancel, hq]; exact hx), no1⟩
      case measure => simp [intOf]; omega
    · obtain rfl : q = 0 := by omega
      have hnb := hend rfl
      obtain ⟨a1, m1, c1, U1, hm1, r1, no1, _⟩ := cat (no_one w wr (IntKind.u8.wrap k) hno.2.2) (hno.1.bin.below (Below.alloc (Below.refl _ _) (Nat.le_refl _) _)) (by rw [dg_len, List.length_singleton]; omega)
      have hnB : [IntKind.u8.wrap (k : Int)] ++ dg n k = numB n := by rw [numB_dg n (by omega), hnb, wrap8, Int.emod_eq_of_lt (by omega) (by omega), List.singleton_append]
      rw [hnB] at hm1 no1
      clear hno hdg hnB
      go_upto_region 5 with fail
      refine wp_region_lit ?_
      refine sV (.slice a k c) (wr) (by kernel_rfl) (by kernel_rfl) ?_
      simp only [Act.put, List.setIfInBounds_toArray, List.set_cons_succ, List.set_cons_zero]
      refine sV (.int .i64 k) (wr) (by kernel_rfl) (by kernel_rfl) ?_
      simp only [Act.put, List.setIfInBounds_toArray, List.set_cons_succ, List.set_cons_zero]
      refine sV (.int .u8 (IntKind.u8.wrap k)) (wr) (by kernel_rfl) (by kernel_rfl) ?_
      simp only [Act.put, List.setIfInBounds_toArray, List.set_cons_succ, List.set_cons_zero]
      refine sV (.slice (some ⟨wr.heap.size, 0, none⟩) 1 1) (wr.alloc (.cells #[.int .u8 (IntKind.u8.wrap k)] 5)) (by kernel_rfl) (by kernel_rfl) ?_
      simp only [Act.put, List.setIfInBounds_toArray, List.set_cons_succ, List.set_cons_zero]
      refine sV (.slice a k c) (wr.alloc (.cells #[.int .u8 (IntKind.u8.wrap k)] 5)) (by kernel_rfl) (by kernel_rfl) ?_
      simp only [Act.put, List.setIfInBounds_toArray, List.set_cons_succ, List.set_cons_zero]
      refine sA (by kernel_rfl) 32 32 _ _ (by rfl) (.slice (some ⟨wr.heap.size, 0, none⟩) 1 1) (.slice a k c) (by kernel_rfl) (by kernel_rfl) (.slice a1 m1 c1) (U1) r1 ?_
      simp only [Act.put, List.setIfInBounds_toArray, List.set_cons_succ, List.set_cons_zero]
      go_wp2_with fail
      go_ret
      exact ⟨a1, _, c1, rfl, rfl, by rw [← hm1]; exact no1⟩
def MidW (w : World) (n : Int) (x b i : Value) (U : World) : Prop :=
  ∃ (k : Nat) (a : Option Addr) (c : Nat), k ≤ 8 ∧ x = .int .u64 (n / 2 ^ (8 * k)) ∧ b = .slice a k c ∧ i = .int .i64 (k : Int) ∧ NO w U (.slice a k c) (dg n k)
set_option maxHeartbeats 1600000 in
theorem word_any (w : World) (n : Int) (h0 : 0 ≤ n) : Calls Try.prog 158 #[.int .u64 n] w (Mk w (wordB n)) := by
  have hw := wordB_dg n
  generalize wordB n = Z at hw ⊢
  subst hw
  go_enter Try.func158, Try.ntmps158
  go_wp2_with fail
  go_loopw [0, 3, 4] (fun x b i wr => MidW w n x b i wr) (fun _ _ i _ => 8 - (intOf i).toNat)
  case atStart => exact ⟨0, none, 0, by omega, by simp, rfl, rfl, no_nil w w (Below.refl _ _)⟩
  case round =>
    obtain ⟨k, a, c, hk, rfl, rfl, rfl, hno⟩ := hrel
    have hq0 : 0 ≤ n / 2 ^ (8 * k) := Int.ediv_nonneg h0 (Int.pow_nonneg (by decide))
    have hqn : n / 2 ^ (8 * k) ≤ n := Int.ediv_le_self _ h0
    have hsh := shr8 n k
    have hdg : [n / 2 ^ (8 * k) % 256] ++ dg n k = dg n (k + 1) := rfl
    rw [← wrap8] at hdg
    obtain ⟨q, hq⟩ : ∃ q, n / 2 ^ (8 * k) = q := ⟨_, rfl⟩
    rw [hq] at hq0 hqn hsh hdg ⊢
    by_cases hx : k < 8
    · have hg : (k : Int) < 8 := by omega
      obtain ⟨a1, m1, c1, U1, hm1, r1, no1, _⟩ := cat (no_one w wr (IntKind.u8.wrap q) hno.2.2) (hno.1.bin.below (Below.alloc (Below.refl _ _) (Nat.le_refl _) _)) (by rw [dg_len, List.length_singleton]; omega)
      rw [hdg] at hm1 no1
      rw [dg_len] at hm1
      subst hm1
      clear hno
      go_upto_region 5 with fail
      refine wp_region_lit ?_
      refine sV (.int .u64 q) (wr) (by kernel_rfl) (by kernel_rfl) ?_
      simp only [Act.put, List.setIfInBounds_toArray, List.set_cons_succ, List.set_cons_zero]
      refine sV (.int .u8 (IntKind.u8.wrap q)) (wr) (by kernel_rfl) (by kernel_rfl) ?_
      simp only [Act.put, List.setIfInBounds_toArray, List.set_cons_succ, List.set_cons_zero]
      refine sV (.slice (some ⟨wr.heap.size, 0, none⟩) 1 1) (wr.alloc (.cells #[.int .u8 (IntKind.u8.wrap q)] 5)) (by kernel_rfl) (by kernel_rfl) ?_
      simp only [Act.put, List.setIfInBounds_toArray, List.set_cons_succ, List.set_cons_zero]
      refine sV (.slice a k c) (wr.alloc (.cells #[.int .u8 (IntKind.u8.wrap q)] 5)) (by kernel_rfl) (by kernel_rfl) ?_
      simp only [Act.put, List.setIfInBounds_toArray, List.set_cons_succ, List.set_cons_zero]
      refine sA (by kernel_rfl) 32 32 _ _ (by rfl) (.slice (some ⟨wr.heap.size, 0, none⟩) 1 1) (.slice a k c) (by kernel_rfl) (by kernel_rfl) (.slice a1 (k + 1) c1) (U1) r1 ?_
      simp only [Act.put, List.setIfInBounds_toArray, List.set_cons_succ, List.set_cons_zero]
      go_wp2_with fail
      go_roundw
      case rel => exact ⟨k + 1, a1, c1, by omega, by rw [← hsh], rfl, by go_num, no1⟩
      case measure => simp [intOf]; omega
    · obtain rfl : k = 8 := by omega
      clear hdg
      go_wp2_with fail
      go_ret
      exact ⟨a, 8, c, (dg_len n 8).symm, rfl, hno⟩
theorem bool_any (w : World) (b : Bool) : Calls Try.prog 159 #[.bool b] w (Mk w (boolB b)) := by
  have h1 := no_one w w 1 (Below.refl _ _)
  have h0 := no_one w w 0 (Below.refl _ _)
  cases b
  all_goals
    go_enter Try.func159, Try.ntmps159
    go_wp2_with fail
    go_ret
  · exact ⟨_, 1, 1, rfl, rfl, h0⟩
  · exact ⟨_, 1, 1, rfl, rfl, h1⟩
/-- Bytes, how many ahead of them. -/
theorem counted_any (w : World) (a : Option Addr) (n c : Nat) (zs : List Int) (h : BIn w (.slice a n c) zs) (hn : n ≤ 1099511627000) : Calls Try.prog 157 #[.slice a n c] w (Mk w (numB n ++ zs)) := by
  have hnl : n = zs.length := by obtain ⟨_, _, e, _⟩ := h; cases e; rfl
  have C := WirS.hide (number_any w n (by omega) (by omega))
  have hk : (numB (n : Int)).length ≤ 9 := by rw [numB_dg _ (by omega), List.length_cons, dg_len]; have := nb_le (n : Int) (by omega); omega
  have H := WirS.hide (fun (U : World) (d : Value) (hd : NO w U d (numB n)) => cat hd (h.below hd.2.2) (by omega))
  generalize numB n ++ zs = Z at H ⊢
  clear h hk hnl
  go_enter Try.func157, Try.ntmps157
  go_upto_region 1 with fail
  refine wp_region_lit ?_
  refine sV (.slice a n c) (w) (by kernel_rfl) (by kernel_rfl) ?_
  simp only [Act.put, List.setIfInBounds_toArray, List.set_cons_succ, List.set_cons_zero]
  refine sV (.int .i64 n) (w) (by kernel_rfl) (by kernel_rfl) ?_
  simp only [Act.put, List.setIfInBounds_toArray, List.set_cons_succ, List.set_cons_zero]
  refine WirAB.sCx (by kernel_rfl) (by kernel_rfl) C.out ?_
  rintro e U ⟨ad, m, cd, hm, rfl, hd⟩
  refine ⟨_, rfl, ?_⟩
  simp only [Act.put, List.setIfInBounds_toArray, List.set_cons_succ, List.set_cons_zero]
  obtain ⟨a1, m1, c1, U1, hm1, r1, no1, _⟩ := H.out U _ hd
  refine sV (.slice a n c) (U) (by kernel_rfl) (by kernel_rfl) ?_
  simp only [Act.put, List.setIfInBounds_toArray, List.set_cons_succ, List.set_cons_zero]
  refine sA (by kernel_rfl) 32 32 _ _ (by rfl) (.slice ad m cd) (.slice a n c) (by kernel_rfl) (by kernel_rfl) (.slice a1 m1 c1) (U1) r1 ?_
  simp only [Act.put, List.setIfInBounds_toArray, List.set_cons_succ, List.set_cons_zero]
  clear hm H C
  go_wp2_with fail
  go_ret
  exact ⟨a1, _, c1, hm1, rfl, no1⟩
end WrwA
end Go.Proofs.Ythhnojnpjbklpaa

namespace Go.Proofs.Ythhnojnpjbklpaa
namespace WrwB
open Go.RowKit
open BlkM WirM WirS WirA WrwA
open WirB (len_of)
open WirE (NewB)
open WirX (Thg Bag own)

/-- The document's writer in memory: its bytes are a call's own. -/
structure RW (w : World) (X : Nat) (lim : Int) (v : Value) (zs : List Int) (err : Int) : Prop where
  cell : At w X 109 [.int .i64 lim, v, .int .i64 err]
  own : WirM.Own w 5 v zs
  off : v.ownBlock ≠ some X
  low : 0 ≤ lim
  high : lim ≤ 1048576
  fits : (zs.length : Int) ≤ lim
theorem RW.fr {Y : Nat → Prop} {w w' : World} {X : Nat} {lim : Int} {v : Value} {zs : List Int} {err : Int} (h : RW w X lim v zs err) (hf : Fr Y w w') (hX : ∀ k, Xw X v k → ¬ Y k) : RW w' X lim v zs err :=
  ⟨At.fr h.cell hf (hX X (.inl rfl)), h.own.fr hf (fun k hk => hX k (.inr hk)), h.off, h.low, h.high, h.fits⟩
def rwt (X : Nat) (lim : Int) (v : Value) (zs : List Int) (err : Int) : Thg where
  ok w := RW w X lim v zs err
  foot k := Xw X v k
  stable h hf hX := h.fr hf hX
  inside h k hk := by
    rcases hk with rfl | hk
    · exact h.cell.lt
    · exact h.own.lt k hk
/-- What a writing call leaves. -/
def RBW (w0 : World) (l : List Thg) (X : Nat) (lim : Int) (zs' : List Int) (err' : Int) (e : Ending) (w' : World) : Prop := e = .returned (.int .i64 err') ∧ ∃ v', Bag w0 w' (rwt X lim v' zs' err' :: l)
theorem rw_set {w0 w w' : World} {l : List Thg} {X : Nat} {lim : Int} {v : Value} {zs : List Int} {err : Int} (c : Int) (h : Bag w0 w (rwt X lim v zs err :: l)) (e : w' = w.setCell ⟨X, 2, none⟩ (.int .i64 c)) : Bag w0 w' (rwt X lim v zs c :: l) := by
  subst e
  have hh := h.head
  have hF := (Fr.refl (fun k => k = X) w).setCell X 2 (.int .i64 c) (fun _ => rfl)
  exact h.act (hF.mono fun _ _ hx => .inl hx) (show RW _ X lim v zs c from ⟨hh.cell.setCell 2 _, hh.own.fr hF (fun k hk e => hh.off (by rw [hk, e])), hh.off, hh.low, hh.high, hh.fits⟩) (fun _ hk => .inl hk)
set_option maxHeartbeats 1600000 in
theorem put_any (w0 w : World) (l : List Thg) (X : Nat) (lim : Int) (v : Value) (zs : List Int) (err : Int) (a : Option Addr) (n c : Nat) (ns : List Int) (hB : Bag w0 w (rwt X lim v zs err :: l)) (hx : BIn w (.slice a n c) ns) (hn : n ≤ 1099511627776 - 1048576) :
    Calls Try.prog 155 #[.pointer (some ⟨X, 0, none⟩), .slice a n c] w (RBW w0 l X lim (putZ lim err zs ns) (putE lim err zs ns.length)) := by
  have h := hB.head
  obtain ⟨va, vc, hv⟩ := len_of h.own
  have hnl : n = ns.length := by obtain ⟨_, _, e, _⟩ := hx; cases e; rfl
  have c0 : w.cell? ⟨X, 0, none⟩ = some (.int .i64 lim) := by rw [h.cell.cell]; rfl
  have c1 : w.cell? ⟨X, 1, none⟩ = some (.slice va zs.length vc) := by rw [h.cell.cell, hv]; rfl
  have c2 : w.cell? ⟨X, 2, none⟩ = some (.int .i64 err) := by rw [h.cell.cell]; rfl
  have hfit := h.fits
  have hlo := h.low
  have hhi := h.high
  have f2 := h.cell.frozen 2
  have HB := WirS.hide hB
  unfold putZ
  rw [← hnl]
  unfold putE
  obtain ⟨k, hk⟩ : ∃ k, k = zs.length := ⟨_, rfl⟩
  rw [← hk] at c1 hfit ⊢
  have w1 : IntKind.i64.wrap (↑k + ↑n) = (k : Int) + (n : Int) := IntWalk.i64_in _ (by omega)
  by_cases he : err = 0
  · subst he
    simp only [ne_eq, not_true_eq_false, if_false]
    by_cases hlim : lim < (k : Int) + (n : Int)
    · rw [if_pos hlim, if_neg (by decide)]
      have hd : decide (lim < (k : Int) + (n : Int)) = true := decide_eq_true hlim
      clear hv hk h hx hB hlim hnl
      go_enter Try.func155, Try.ntmps155
      go_upto_region 1 with fail
      go_quiet (fail)
      go_wp2_with fail
      go_ret
      exact ⟨rfl, v, rw_set 4 (HB.out.more (below_drewN (Below.refl _ _) _)) rfl⟩
    · rw [if_neg hlim, if_pos rfl]
      have hd : decide (lim < (k : Int) + (n : Int)) = false := decide_eq_false hlim
      have hb0 : ∀ q, Below w.heap.size w (w.drewN q) := fun q => below_drewN (Below.refl _ _) q
      have HH := WirS.hide h
      have hA : ∀ q, ∃ a1 m1 c1 U1 a2 m2 c2 U2, (Builtin.append_ #[32, 32] 32 #[.slice (some ⟨(w.drewN q).heap.size, 0, none⟩) 0 0, .slice va k vc]).run Try.prog ((w.drewN q).alloc (.cells #[] 5)) = .ok (.slice a1 m1 c1) U1 ∧
          (Builtin.append_ #[32, 32] 32 #[.slice a1 m1 c1, .slice a n c]).run Try.prog U1 = .ok (.slice a2 m2 c2) U2 ∧ NO w U2 (.slice a2 m2 c2) (zs ++ ns) := fun q => by
        have hz := no_zero w (w.drewN q) (hb0 q)
        have hbin := h.own.bin
        rw [hv, ← hk] at hbin
        obtain ⟨a1, m1, c1, U1, _, r1, n1, _⟩ := cat hz (hbin.below hz.2.2) (by simp; omega)
        rw [List.nil_append] at n1
        obtain ⟨a2, m2, c2, U2, _, r2, n2, _⟩ := cat n1 (hx.below n1.2.2) (by omega)
        exact ⟨a1, m1, c1, U1, a2, m2, c2, U2, r1, r2, n2⟩
      have HA := WirS.hide hA
      have HL := WirS.hide (show (((zs ++ ns).length : Nat) : Int) ≤ lim by rw [List.length_append]; omega)
      have HV := WirS.hide (show v = .slice va k vc from by rw [hv, hk])
      clear hv hk h hx hB hlim hA hb0 hnl
      go_enter Try.func155, Try.ntmps155
      go_upto_region 1 with fail
      go_quiet (fail)
      go_upto_region 4 with fail
      obtain ⟨a1, m1, c1', U1, a2, m2, c2', U2, r1, r2, no2⟩ := HA.out nq
      have hal : Below w.heap.size w ((w.drewN nq).alloc (.cells #[] 5)) := Below.alloc (below_drewN (Below.refl _ _) _) (Nat.le_refl _) _
      have hX := HH.out.cell.lt
      have at2 : At U2 X 109 [.int .i64 lim, v, .int .i64 0] := At.fr (X := fun _ => False) HH.out.cell (Fr.of_below no2.2.2) (fun h => h)
      have cz : ((w.drewN nq).alloc (.cells #[] 5)).cell? ⟨X, 1, none⟩ = some (.slice va k vc) := (hal.cell hX).trans c1
      have hf := at2.frozen 1
      have hf2 := at2.frozen 2
      have hc : U2.cell? ⟨X, 1, none⟩ = some (.slice va k vc) := by rw [at2.cell, ← HV.out]; rfl
      have hc2 : U2.cell? ⟨X, 2, none⟩ = some (.int .i64 0) := by rw [at2.cell]; rfl
      have AT := WirS.hide at2
      have NO2 := WirS.hide no2
      refine wp_region_lit ?_
      refine sV (.pointer (some ⟨X, 0, none⟩)) (w.drewN nq) (by kernel_rfl) (by kernel_rfl) ?_
      simp only [Act.put, List.setIfInBounds_toArray, List.set_cons_succ, List.set_cons_zero]
      refine sV (.slice (some ⟨(w.drewN nq).heap.size, 0, none⟩) 0 0) ((w.drewN nq).alloc (.cells #[] 5)) (by kernel_rfl) (by kernel_rfl) ?_
      simp only [Act.put, List.setIfInBounds_toArray, List.set_cons_succ, List.set_cons_zero]
      refine sV (.pointer (some ⟨X, 0, none⟩)) ((w.drewN nq).alloc (.cells #[] 5)) (by kernel_rfl) (by kernel_rfl) ?_
      simp only [Act.put, List.setIfInBounds_toArray, List.set_cons_succ, List.set_cons_zero]
      refine sV (.pointer (some ⟨X, 0, none⟩)) ((w.drewN nq).alloc (.cells #[] 5)) (by kernel_rfl) (by kernel_rfl) ?_
      simp only [Act.put, List.setIfInBounds_toArray, List.set_cons_succ, List.set_cons_zero]
      refine sV (.pointer (some ⟨X, 1, none⟩)) ((w.drewN nq).alloc (.cells #[] 5)) (by kernel_rfl) (by kernel_rfl) ?_
      simp only [Act.put, List.setIfInBounds_toArray, List.set_cons_succ, List.set_cons_zero]
      refine sP (by kernel_rfl) _ _ (by rfl) ⟨X, 1, none⟩ (by kernel_rfl) (.slice va k vc) cz (by kernel_rfl) ?_
      simp only [Act.put, List.setIfInBounds_toArray, List.set_cons_succ, List.set_cons_zero]
      refine sA (by kernel_rfl) 32 32 _ _ (by rfl) (.slice (some ⟨(w.drewN nq).heap.size, 0, none⟩) 0 0) (.slice va k vc) (by kernel_rfl) (by kernel_rfl) (.slice a1 m1 c1') (U1) r1 ?_
      simp only [Act.put, List.setIfInBounds_toArray, List.set_cons_succ, List.set_cons_zero]
      refine sV (.slice a n c) (U1) (by kernel_rfl) (by kernel_rfl) ?_
      simp only [Act.put, List.setIfInBounds_toArray, List.set_cons_succ, List.set_cons_zero]
      refine sA (by kernel_rfl) 32 32 _ _ (by rfl) (.slice a1 m1 c1') (.slice a n c) (by kernel_rfl) (by kernel_rfl) (.slice a2 m2 c2') (U2) r2 ?_
      simp only [Act.put, List.setIfInBounds_toArray, List.set_cons_succ, List.set_cons_zero]
      clear r1 r2 HA cz no2 at2 hal c0 c1 c2 f2
      go_wp2_with fail
      go_ret
      have n2 := NO2.out
      have h := HH.out
      refine ⟨rfl, .slice a2 m2 c2', (HB.out.act (o' := rwt X lim (.slice a2 m2 c2') (zs ++ ns) 0) ((Fr.of_below n2.2.2).setCell X 1 _ (fun _ => .inl rfl)) ⟨AT.out.setCell 1 _, ?_, ?_, h.low, h.high, HL.out⟩ ?_)⟩
      · exact n2.1.fr (X := fun k => k = X) ((Fr.refl _ U2).setCell X 1 _ (fun _ => rfl)) (fun k hk hx => by have := n2.2.1 k hk; subst hx; omega)
      · intro hk
        have := n2.2.1 X hk
        omega
      · intro k hk
        rcases hk with rfl | hk
        · exact .inl (.inl rfl)
        · exact .inr (n2.2.1 k hk)
  · rw [if_pos he, if_neg he]
    have e1 : (err == 0) = false := by simpa using he
    clear hv hk h hx hB he hnl
    go_enter Try.func155, Try.ntmps155
    go_upto_region 1 with fail
    go_quiet (fail)
    go_wp2_with fail
    go_ret
    exact ⟨rfl, v, HB.out.more (below_drewN (Below.refl _ _) _)⟩
theorem done_err (w : World) (X : Nat) (lim : Int) (v : Value) (zs : List Int) (err : Int) (h : RW w X lim v zs err) (he : err ≠ 0) : Calls Try.prog 26 #[.pointer (some ⟨X, 0, none⟩)] w fun e w' => e = .returned (.tuple #[.slice none 0 0, .int .i64 err]) ∧ Below w.heap.size w w' := by
  have c2 : w.cell? ⟨X, 2, none⟩ = some (.int .i64 err) := by rw [h.cell.cell]; rfl
  have e1 : (err != 0) = true := by simpa using he
  clear h he
  go_enter Try.func26, Try.ntmps26
  go_upto_region 2 with fail
  go_quiet (fail)
  go_wp2_with fail
  go_ret2
  exact ⟨rfl, below_drewN (Below.refl _ _) _⟩
theorem done_ok (w : World) (X : Nat) (lim : Int) (v : Value) (zs : List Int) (h : RW w X lim v zs 0) :
    Calls Try.prog 26 #[.pointer (some ⟨X, 0, none⟩)] w fun e w' => ∃ va vn vc, e = .returned (.tuple #[.slice va vn vc, .int .i64 0]) ∧ NO w w' (.slice va vn vc) zs := by
  obtain ⟨va, vc, hv⟩ := len_of h.own
  have c1 : w.cell? ⟨X, 1, none⟩ = some (.slice va zs.length vc) := by rw [h.cell.cell, hv]; rfl
  have c2 : w.cell? ⟨X, 2, none⟩ = some (.int .i64 0) := by rw [h.cell.cell]; rfl
  have hbin := h.own.bin
  rw [hv] at hbin
  have hz := no_zero w w (Below.refl _ _)
  obtain ⟨a1, m1, c1', U1, _, r1, n1, _⟩ := cat hz (hbin.below hz.2.2) (by have := h.fits; have := h.high; simp; omega)
  rw [List.nil_append] at n1
  have cz : (w.alloc (.cells #[] 5)).cell? ⟨X, 1, none⟩ = some (.slice va zs.length vc) := (hz.2.2.cell h.cell.lt).trans c1
  have N := WirS.hide n1
  obtain ⟨k, hk⟩ : ∃ k, k = zs.length := ⟨_, rfl⟩
  rw [← hk] at r1 cz c1
  clear h hv hbin hz n1 hk
  go_enter Try.func26, Try.ntmps26
  go_upto_region 3 with fail
  refine wp_region_lit ?_
  refine sV (.slice (some ⟨w.heap.size, 0, none⟩) 0 0) (w.alloc (.cells #[] 5)) (by kernel_rfl) (by kernel_rfl) ?_
  simp only [Act.put, List.setIfInBounds_toArray, List.set_cons_succ, List.set_cons_zero]
  refine sV (.pointer (some ⟨X, 0, none⟩)) (w.alloc (.cells #[] 5)) (by kernel_rfl) (by kernel_rfl) ?_
  simp only [Act.put, List.setIfInBounds_toArray, List.set_cons_succ, List.set_cons_zero]
  refine sV (.pointer (some ⟨X, 0, none⟩)) (w.alloc (.cells #[] 5)) (by kernel_rfl) (by kernel_rfl) ?_
  simp only [Act.put, List.setIfInBounds_toArray, List.set_cons_succ, List.set_cons_zero]
  refine sV (.pointer (some ⟨X, 1, none⟩)) (w.alloc (.cells #[] 5)) (by kernel_rfl) (by kernel_rfl) ?_
  simp only [Act.put, List.setIfInBounds_toArray, List.set_cons_succ, List.set_cons_zero]
  refine sP (by kernel_rfl) _ _ (by rfl) ⟨X, 1, none⟩ (by kernel_rfl) (.slice va k vc) cz (by kernel_rfl) ?_
  simp only [Act.put, List.setIfInBounds_toArray, List.set_cons_succ, List.set_cons_zero]
  refine sA (by kernel_rfl) 32 32 _ _ (by rfl) (.slice (some ⟨w.heap.size, 0, none⟩) 0 0) (.slice va k vc) (by kernel_rfl) (by kernel_rfl) (.slice a1 m1 c1') (U1) r1 ?_
  simp only [Act.put, List.setIfInBounds_toArray, List.set_cons_succ, List.set_cons_zero]
  go_wp2_with fail
  go_ret2
  exact ⟨a1, m1, c1', rfl, N.out⟩
theorem new_no (w : World) (lim : Int) (h : lim < 0 ∨ 1048576 < lim) : Calls Try.prog 19 #[.int .i64 lim] w fun e w' => e = .returned (.tuple #[.pointer none, .int .i64 3]) ∧ w = w' := by
  by_cases h0 : lim < 0
  · have hd : decide (lim < 0) = true := decide_eq_true h0
    clear h
    go_enter Try.func19, Try.ntmps19
    go_wp2_with fail
    go_ret2
    exact ⟨rfl, rfl⟩
  · have hd : decide (lim < 0) = false := decide_eq_false h0
    have h2 : 1048576 < lim := by omega
    have hd2 : decide (1048576 < lim) = true := decide_eq_true h2
    clear h
    go_enter Try.func19, Try.ntmps19
    go_wp2_with fail
    go_ret2
    exact ⟨rfl, rfl⟩
theorem new_any (w : World) (lim : Int) (h0 : 0 ≤ lim) (h1 : lim ≤ 1048576) : Calls Try.prog 19 #[.int .i64 lim] w fun e w' => ∃ X, e = .returned (.tuple #[.pointer (some ⟨X, 0, none⟩), .int .i64 0]) ∧ w.heap.size ≤ X ∧ RW w' X lim (.slice none 0 0) [] 0 ∧ Below w.heap.size w w' := by
  have hd : decide (lim < 0) = false := decide_eq_false (by omega)
  have hd2 : decide (1048576 < lim) = false := decide_eq_false (by omega)
  have hA := At.new w 109 [.int .i64 lim, .slice none 0 0, .int .i64 0]
  go_enter Try.func19, Try.ntmps19
  go_wp2_with fail
  go_ret2
  exact ⟨_, rfl, Nat.le_refl _, ⟨hA, WirM.Own.nil _ _, fun h => by simp [Value.ownBlock] at h, h0, h1, by simpa using h0⟩, Below.alloc (Below.refl _ _) (Nat.le_refl _) _⟩
end WrwB
end Go.Proofs.Ythhnojnpjbklpaa

namespace Go.Proofs.Ythhnojnpjbklpaa
namespace WrwC
open Go.RowKit PaceA FltC
open BlkM WirM WirS WirA WrwA WrwB
open WirD (nb numB nb_le)
open WirE (NewB tb tb_len bin_bw below_bw)
open WirF (boolB wordB)
open WirRT (dg_len wordB_dg)
open WirBC (numB_dg)
open WirX (Thg Bag own)

theorem bin_len {w : World} {a : Option Addr} {n c : Nat} {zs : List Int} (h : BIn w (.slice a n c) zs) : n = zs.length := by
  obtain ⟨_, _, e, _⟩ := h
  cases e
  rfl
theorem put_at {w0 w : World} {l : List Thg} {X : Nat} {lim : Int} {v : Value} {zs : List Int} {err : Int} (ns : List Int) (hB : Bag w0 w (rwt X lim v zs err :: l)) (hl : ns.length ≤ 1099511627776 - 1048576) :
    Hid (∀ U a n c, Below w.heap.size w U → BIn U (.slice a n c) ns → Calls Try.prog 155 #[.pointer (some ⟨X, 0, none⟩), .slice a n c] U (RBW w0 l X lim (putZ lim err zs ns) (putE lim err zs ns.length))) :=
  WirS.hide (fun U a n c hb hx => put_any w0 U l X lim v zs err a n c ns (hB.more hb) hx (by rw [show n = ns.length from bin_len hx]; exact hl))
theorem numB_len (n : Int) (h1 : n < 18446744073709551616) : (numB n).length ≤ 9 := by
  rw [numB_dg _ h1, List.length_cons, dg_len]
  have := nb_le n h1
  omega
theorem num_neg (w0 w : World) (l : List Thg) (X : Nat) (lim : Int) (v : Value) (zs : List Int) (err n : Int) (hB : Bag w0 w (rwt X lim v zs err :: l)) (hn : n < 0) :
    Calls Try.prog 79 #[.pointer (some ⟨X, 0, none⟩), .int .i64 n] w (RBW w0 l X lim zs (if err ≠ 0 then err else 3)) := by
  have c2 : w.cell? ⟨X, 2, none⟩ = some (.int .i64 err) := by rw [hB.head.cell.cell]; rfl
  have f2 := hB.head.cell.frozen 2
  have HB := WirS.hide hB
  have hd : decide (n < 0) = true := decide_eq_true hn
  clear hB
  by_cases he : err = 0
  · subst he
    go_enter Try.func79, Try.ntmps79
    go_wp2_with fail
    go_ret
    exact ⟨rfl, v, rw_set 3 HB.out rfl⟩
  · have e1 : (err == 0) = false := by simpa using he
    have e2 : (err != 0) = true := by simpa using he
    rw [if_pos he]
    clear he
    go_enter Try.func79, Try.ntmps79
    go_wp2_with fail
    go_ret
    exact ⟨rfl, v, HB.out⟩
theorem num_any (w0 w : World) (l : List Thg) (X : Nat) (lim : Int) (v : Value) (zs : List Int) (err n : Int) (hB : Bag w0 w (rwt X lim v zs err :: l)) (hn : 0 ≤ n) (h1 : n < 9223372036854775808) :
    Calls Try.prog 79 #[.pointer (some ⟨X, 0, none⟩), .int .i64 n] w (RBW w0 l X lim (putZ lim err zs (numB n)) (putE lim err zs (numB n).length)) := by
  have c2 : w.cell? ⟨X, 2, none⟩ = some (.int .i64 err) := by rw [hB.head.cell.cell]; rfl
  have hd : decide (n < 0) = false := decide_eq_false (by omega)
  have P := put_at (numB n) hB (by have := numB_len n (by omega); omega)
  have N := WirS.hide (number_any w n hn h1)
  have HB := WirS.hide hB
  clear hB
  by_cases he : err = 0
  · subst he
    generalize putE lim 0 zs (numB n).length = E at P ⊢
    generalize putZ lim 0 zs (numB n) = Z at P ⊢
    go_enter Try.func79, Try.ntmps79
    go_wp2_with (first
      | (go_at_call 156; refine (N.out).mono ?_; rintro e U ⟨a, m, c, hm, rfl, hd⟩; have HD := WirS.hide hd; clear hd hm)
      | (go_at_call 155; refine (P.out _ a m c HD.out.2.2 HD.out.1.bin).mono ?_; rintro e U2 ⟨rfl, hq⟩; have HQ := WirS.hide hq; clear hq))
    go_ret
    exact ⟨rfl, HQ.out⟩
  · have e1 : (err == 0) = false := by simpa using he
    have e2 : (err != 0) = true := by simpa using he
    have hE : putE lim err zs (numB n).length = err := by unfold putE; rw [if_pos he]
    have hZ : putZ lim err zs (numB n) = zs := by unfold putZ; rw [hE, if_neg he]
    rw [hE, hZ]
    clear he hE hZ P N
    go_enter Try.func79, Try.ntmps79
    go_wp2_with fail
    go_ret
    exact ⟨rfl, v, HB.out⟩
theorem bytes_any (w0 w : World) (l : List Thg) (X : Nat) (lim : Int) (v : Value) (zs : List Int) (err : Int) (a : Option Addr) (n c : Nat) (bd : List Int) (hB : Bag w0 w (rwt X lim v zs err :: l)) (hx : BIn w (.slice a n c) bd) (hn : n ≤ 1048576) :
    Calls Try.prog 81 #[.pointer (some ⟨X, 0, none⟩), .slice a n c] w (RBW w0 l X lim (putZ lim err zs (numB n ++ bd)) (putE lim err zs (numB n ++ bd).length)) := by
  have hnl : n = bd.length := by obtain ⟨_, _, e, _⟩ := hx; cases e; rfl
  have C := WirS.hide (counted_any w a n c bd hx (by omega))
  have P := put_at (numB n ++ bd) hB (by rw [List.length_append]; have := numB_len n (by omega); omega)
  generalize putE lim err zs (numB n ++ bd).length = E at P ⊢
  generalize putZ lim err zs (numB n ++ bd) = Z at P ⊢
  clear hB hx hnl
  go_enter Try.func81, Try.ntmps81
  go_wp2_with (first
    | (go_at_call 157; refine (C.out).mono ?_; rintro e U ⟨ad, m, cd, hm, rfl, hd⟩; have HD := WirS.hide hd; clear hd hm)
    | (go_at_call 155; refine (P.out _ ad m cd HD.out.2.2 HD.out.1.bin).mono ?_; rintro e U2 ⟨rfl, hq⟩; have HQ := WirS.hide hq; clear hq))
  go_ret
  exact ⟨rfl, HQ.out⟩
theorem text_any (w0 w : World) (l : List Thg) (X : Nat) (lim : Int) (v : Value) (zs : List Int) (err : Int) (s : ByteArray) (hB : Bag w0 w (rwt X lim v zs err :: l)) (hn : s.size ≤ 1048576) :
    Calls Try.prog 80 #[.pointer (some ⟨X, 0, none⟩), .string s] w (RBW w0 l X lim (putZ lim err zs (numB s.size ++ tb s)) (putE lim err zs (numB s.size ++ tb s).length)) := by
  have hcv := fun W1 => Lib.run_convert_string_bytes (P := Try.prog) W1 9 32 5 s Try.underlying9 Try.underlying32 Try.underlying5
  have hb := below_bw w s
  have C := WirS.hide (fun c hc => counted_any (Lib.bytesWorld w 5 s) (some ⟨w.heap.size, 0, none⟩) s.size c (tb s) (bin_bw w s c hc) (by omega))
  have P := put_at (numB s.size ++ tb s) (hB.more hb) (by rw [List.length_append, tb_len]; have := numB_len s.size (by omega); omega)
  generalize putE lim err zs (numB s.size ++ tb s).length = E at P ⊢
  generalize putZ lim err zs (numB s.size ++ tb s) = Z at P ⊢
  have hm2 : s.size ≤ 9223372036854775807 := by omega
  clear hB hb
  go_enter Try.func80, Try.ntmps80
  go_wp2_with (first
    | (go_at_call 157; refine (C.out _ (grownCap_ge w s.size 0 5)).mono ?_; rintro e U ⟨ad, m, cd, hm, rfl, hd⟩; have HD := WirS.hide hd; clear hd hm)
    | (go_at_call 155; refine (P.out _ ad m cd HD.out.2.2 HD.out.1.bin).mono ?_; rintro e U2 ⟨rfl, hq⟩; have HQ := WirS.hide hq; clear hq))
  go_ret
  exact ⟨rfl, HQ.out⟩
theorem word_any (w0 w : World) (l : List Thg) (X : Nat) (lim : Int) (v : Value) (zs : List Int) (err n : Int) (hB : Bag w0 w (rwt X lim v zs err :: l)) (h0 : 0 ≤ n) :
    Calls Try.prog 84 #[.pointer (some ⟨X, 0, none⟩), .int .u64 n] w (RBW w0 l X lim (putZ lim err zs (wordB n)) (putE lim err zs (wordB n).length)) := by
  have N := WirS.hide (WrwA.word_any w n h0)
  have P := put_at (wordB n) hB (by rw [wordB_dg, dg_len]; omega)
  generalize putE lim err zs (wordB n).length = E at P ⊢
  generalize putZ lim err zs (wordB n) = Z at P ⊢
  clear hB h0
  go_enter Try.func84, Try.ntmps84
  go_wp2_with (first
    | (go_at_call 158; refine (N.out).mono ?_; rintro e U ⟨a, m, c, hm, rfl, hd⟩; have HD := WirS.hide hd; clear hd hm)
    | (go_at_call 155; refine (P.out _ a m c HD.out.2.2 HD.out.1.bin).mono ?_; rintro e U2 ⟨rfl, hq⟩; have HQ := WirS.hide hq; clear hq))
  go_ret
  exact ⟨rfl, HQ.out⟩
theorem bool_any (w0 w : World) (l : List Thg) (X : Nat) (lim : Int) (v : Value) (zs : List Int) (err : Int) (b : Bool) (hB : Bag w0 w (rwt X lim v zs err :: l)) :
    Calls Try.prog 86 #[.pointer (some ⟨X, 0, none⟩), .bool b] w (RBW w0 l X lim (putZ lim err zs (boolB b)) (putE lim err zs (boolB b).length)) := by
  have N := WirS.hide (WrwA.bool_any w b)
  have P := put_at (boolB b) hB (by simp [boolB])
  generalize putE lim err zs (boolB b).length = E at P ⊢
  generalize putZ lim err zs (boolB b) = Z at P ⊢
  clear hB
  go_enter Try.func86, Try.ntmps86
  go_wp2_with (first
    | (go_at_call 159; refine (N.out).mono ?_; rintro e U ⟨a, m, c, hm, rfl, hd⟩; have HD := WirS.hide hd; clear hd hm)
    | (go_at_call 155; refine (P.out _ a m c HD.out.2.2 HD.out.1.bin).mono ?_; rintro e U2 ⟨rfl, hq⟩; have HQ := WirS.hide hq; clear hq))
  go_ret
  exact ⟨rfl, HQ.out⟩
set_option maxHeartbeats 800000 in
theorem hash_any (w0 w : World) (l : List Thg) (X : Nat) (lim : Int) (v : Value) (zs : List Int) (err : Int) (h : List Int) (hl : h.length = 32) (hB : Bag w0 w (rwt X lim v zs err :: l)) :
    Calls Try.prog 82 #[.pointer (some ⟨X, 0, none⟩), .agg (b8 h).toArray] w (RBW w0 l X lim (putZ lim err zs h) (putE lim err zs h.length)) := by
  have hx := BIn.new w 34 h 32 32 (0, 0) (by omega) (Nat.le_refl _)
  rw [show h.take 32 = h by rw [← hl, List.take_length]] at hx
  have hb : Below w.heap.size w (w.alloc (.cells (b8 h).toArray 34)) := Below.alloc (Below.refl _ _) (Nat.le_refl _) _
  have hz := no_zero w _ hb
  obtain ⟨a1, m1, c1, U1, hm1, r1, n1, _⟩ := cat hz (hx.below (Below.alloc (Below.refl _ _) (Nat.le_refl _) _)) (by simp; omega)
  rw [List.nil_append] at n1
  have P := put_at h hB (by omega)
  have Q := WirS.hide (P.out U1 a1 m1 c1 n1.2.2 n1.1.bin)
  generalize putE lim err zs h.length = E at Q ⊢
  generalize putZ lim err zs h = Z at Q ⊢
  clear hB hx hb hz n1 hm1 P hl
  go_enter Try.func82, Try.ntmps82
  go_upto_region 1 with fail
  refine wp_region_lit ?_
  refine sV (.pointer (some ⟨X, 0, none⟩)) (w.alloc (.cells (b8 h).toArray 34)) (by kernel_rfl) (by kernel_rfl) ?_
  simp only [Act.put, List.setIfInBounds_toArray, List.set_cons_succ, List.set_cons_zero]
  refine sV (.slice (some ⟨(w.alloc (.cells (b8 h).toArray 34)).heap.size, 0, none⟩) 0 0) ((w.alloc (.cells (b8 h).toArray 34)).alloc (.cells #[] 5)) (by kernel_rfl) (by kernel_rfl) ?_
  simp only [Act.put, List.setIfInBounds_toArray, List.set_cons_succ, List.set_cons_zero]
  refine sV (.slice (some ⟨w.heap.size, 0, none⟩) 32 32) ((w.alloc (.cells (b8 h).toArray 34)).alloc (.cells #[] 5)) (by kernel_rfl) (by kernel_rfl) ?_
  simp only [Act.put, List.setIfInBounds_toArray, List.set_cons_succ, List.set_cons_zero]
  refine sA (by kernel_rfl) 32 32 _ _ (by rfl) (.slice (some ⟨(w.alloc (.cells (b8 h).toArray 34)).heap.size, 0, none⟩) 0 0) (.slice (some ⟨w.heap.size, 0, none⟩) 32 32) (by kernel_rfl) (by kernel_rfl) (.slice a1 m1 c1) (U1) r1 ?_
  simp only [Act.put, List.setIfInBounds_toArray, List.set_cons_succ, List.set_cons_zero]
  refine WirAB.sCx (by kernel_rfl) (by kernel_rfl) Q.out ?_
  rintro e U2 ⟨rfl, hq⟩
  refine ⟨_, rfl, ?_⟩
  simp only [Act.put, List.setIfInBounds_toArray, List.set_cons_succ, List.set_cons_zero]
  have HQ := WirS.hide hq
  clear hq Q r1
  go_wp2_with fail
  go_ret
  exact ⟨rfl, HQ.out⟩
set_option maxHeartbeats 800000 in
theorem key_any (w0 w : World) (l : List Thg) (X : Nat) (lim : Int) (v : Value) (zs : List Int) (err : Int) (h : List Int) (hl : h.length = 4) (hB : Bag w0 w (rwt X lim v zs err :: l)) :
    Calls Try.prog 83 #[.pointer (some ⟨X, 0, none⟩), .agg (b8 h).toArray] w (RBW w0 l X lim (putZ lim err zs h) (putE lim err zs h.length)) := by
  have hx := BIn.new w 36 h 4 4 (0, 0) (by omega) (Nat.le_refl _)
  rw [show h.take 4 = h by rw [← hl, List.take_length]] at hx
  have hb : Below w.heap.size w (w.alloc (.cells (b8 h).toArray 36)) := Below.alloc (Below.refl _ _) (Nat.le_refl _) _
  have hz := no_zero w _ hb
  obtain ⟨a1, m1, c1, U1, hm1, r1, n1, _⟩ := cat hz (hx.below (Below.alloc (Below.refl _ _) (Nat.le_refl _) _)) (by simp; omega)
  rw [List.nil_append] at n1
  have P := put_at h hB (by omega)
  have Q := WirS.hide (P.out U1 a1 m1 c1 n1.2.2 n1.1.bin)
  generalize putE lim err zs h.length = E at Q ⊢
  generalize putZ lim err zs h = Z at Q ⊢
  clear hB hx hb hz n1 hm1 P hl
  go_enter Try.func83, Try.ntmps83
  go_upto_region 1 with fail
  refine wp_region_lit ?_
  refine sV (.pointer (some ⟨X, 0, none⟩)) (w.alloc (.cells (b8 h).toArray 36)) (by kernel_rfl) (by kernel_rfl) ?_
  simp only [Act.put, List.setIfInBounds_toArray, List.set_cons_succ, List.set_cons_zero]
  refine sV (.slice (some ⟨(w.alloc (.cells (b8 h).toArray 36)).heap.size, 0, none⟩) 0 0) ((w.alloc (.cells (b8 h).toArray 36)).alloc (.cells #[] 5)) (by kernel_rfl) (by kernel_rfl) ?_
  simp only [Act.put, List.setIfInBounds_toArray, List.set_cons_succ, List.set_cons_zero]
  refine sV (.slice (some ⟨w.heap.size, 0, none⟩) 4 4) ((w.alloc (.cells (b8 h).toArray 36)).alloc (.cells #[] 5)) (by kernel_rfl) (by kernel_rfl) ?_
  simp only [Act.put, List.setIfInBounds_toArray, List.set_cons_succ, List.set_cons_zero]
  refine sA (by kernel_rfl) 32 32 _ _ (by rfl) (.slice (some ⟨(w.alloc (.cells (b8 h).toArray 36)).heap.size, 0, none⟩) 0 0) (.slice (some ⟨w.heap.size, 0, none⟩) 4 4) (by kernel_rfl) (by kernel_rfl) (.slice a1 m1 c1) (U1) r1 ?_
  simp only [Act.put, List.setIfInBounds_toArray, List.set_cons_succ, List.set_cons_zero]
  refine WirAB.sCx (by kernel_rfl) (by kernel_rfl) Q.out ?_
  rintro e U2 ⟨rfl, hq⟩
  refine ⟨_, rfl, ?_⟩
  simp only [Act.put, List.setIfInBounds_toArray, List.set_cons_succ, List.set_cons_zero]
  have HQ := WirS.hide hq
  clear hq Q r1
  go_wp2_with fail
  go_ret
  exact ⟨rfl, HQ.out⟩
end WrwC
end Go.Proofs.Ythhnojnpjbklpaa

namespace Go.Proofs.Ythhnojnpjbklpaa
namespace WrwD
open Go.RowKit PaceA FltC
open BlkM WirM WirS WirA WirZ WrwA WrwB
open WirB (Apart)
open WirD (nb numB nb_le)
open WirE (tb)
open WirF (boolB wordB)
open WirW (wpace_any)
open WirX (Thg Bag own wtr bw_of)
open WirNA (Wf st_size)
open WirJ (st conv_any)
open WirRT (tb_st)
open WirAA (form)
open WirBH (bytes_any2)
open WrwC (put_at)

theorem pace_any (w0 w : World) (l : List Thg) (X : Nat) (lim : Int) (v : Value) (zs : List Int) (err : Int) (x : Nat) (hB : Bag w0 w (rwt X lim v zs err :: l)) :
    Calls Try.prog 85 #[.pointer (some ⟨X, 0, none⟩), .float .f64 x] w (RBW w0 l X lim (putZ lim err zs (wordB (canon x : Int))) (putE lim err zs (wordB (canon x : Int)).length)) := by
  have C := WirS.hide (fun W => rbits_any x W)
  have N := WirS.hide (WrwA.word_any w (canon x : Int) (by omega))
  have P := put_at (wordB (canon x : Int)) hB (by rw [WirRT.wordB_dg, WirRT.dg_len]; omega)
  generalize putE lim err zs (wordB (canon x : Int)).length = E at P ⊢
  generalize putZ lim err zs (wordB (canon x : Int)) = Z at P ⊢
  clear hB
  go_enter Try.func85, Try.ntmps85
  go_wp2_with (first
    | (go_at_call 95; refine (C.out _).mono ?_; rintro e U0 ⟨rfl, rfl⟩)
    | (go_at_call 158; refine (N.out).mono ?_; rintro e U ⟨a, m, c, hm, rfl, hd⟩; have HD := WirS.hide hd; clear hd hm)
    | (go_at_call 155; refine (P.out _ a m c HD.out.2.2 HD.out.1.bin).mono ?_; rintro e U2 ⟨rfl, hq⟩; have HQ := WirS.hide hq; clear hq))
  go_ret
  exact ⟨rfl, HQ.out⟩
theorem ours0 (w : World) (p : Option Addr) (t : Td) (va : Option Addr) (vn vc : Nat) (hv : t.v = .slice va vn vc) (hk : t.kd = 0) (E : Int) (R : World → Prop)
    (H0 : Calls Try.prog 79 #[.pointer p, .int .i64 t.n] (PW w t) (Ans E R)) :
    Calls Try.prog 22 #[.pointer p, .agg t.cells.toArray] w (Ans E R) := by
  obtain ⟨W0, e0⟩ : ∃ X, X = PW w t := ⟨_, rfl⟩
  rw [← e0] at H0
  have hA : At W0 w.heap.size 39 t.cells := by rw [e0]; exact PW_at _ _
  have c0 : W0.cell? ⟨w.heap.size, 0, none⟩ = some (.int .i64 0) := by rw [hA.cell, ← hk]; rfl
  have c1 : W0.cell? ⟨w.heap.size, 1, none⟩ = some (.int .i64 t.n) := by rw [hA.cell]; rfl
  have c2 : W0.cell? ⟨w.heap.size, 2, none⟩ = some (.slice va vn vc) := by rw [hA.cell, ← hv]; rfl
  have c5 : W0.cell? ⟨w.heap.size, 39, none⟩ = some (.int .u64 t.u) := by rw [hA.cell, t.getU]
  have c6 : W0.cell? ⟨w.heap.size, 40, none⟩ = some (.bool t.is) := by rw [hA.cell, t.getIs]
  have H := WirS.hide H0
  have E0 := WirS.hide e0
  clear hA hk hv H0 e0
  go_enter Try.func22, Try.ntmps22
  go_upto_region 1 with fail
  rw [show w.alloc (.cells t.cells.toArray 39) = W0 from E0.out.symm]
  go_wp2_with ((go_at_call 79; refine (H.out).mono ?_; rintro e w1 ⟨rfl, hs⟩; have HS := WirS.hide hs; clear hs))
  go_ret
  exact ⟨rfl, HS.out⟩
theorem ours2 (w : World) (p : Option Addr) (t : Td) (va : Option Addr) (vn vc : Nat) (hv : t.v = .slice va vn vc) (hk : t.kd = 2) (E : Int) (R : World → Prop)
    (H0 : Calls Try.prog 81 #[.pointer p, .slice va vn vc] (PW w t) (Ans E R)) :
    Calls Try.prog 22 #[.pointer p, .agg t.cells.toArray] w (Ans E R) := by
  obtain ⟨W0, e0⟩ : ∃ X, X = PW w t := ⟨_, rfl⟩
  rw [← e0] at H0
  have hA : At W0 w.heap.size 39 t.cells := by rw [e0]; exact PW_at _ _
  have c0 : W0.cell? ⟨w.heap.size, 0, none⟩ = some (.int .i64 2) := by rw [hA.cell, ← hk]; rfl
  have c1 : W0.cell? ⟨w.heap.size, 1, none⟩ = some (.int .i64 t.n) := by rw [hA.cell]; rfl
  have c2 : W0.cell? ⟨w.heap.size, 2, none⟩ = some (.slice va vn vc) := by rw [hA.cell, ← hv]; rfl
  have c5 : W0.cell? ⟨w.heap.size, 39, none⟩ = some (.int .u64 t.u) := by rw [hA.cell, t.getU]
  have c6 : W0.cell? ⟨w.heap.size, 40, none⟩ = some (.bool t.is) := by rw [hA.cell, t.getIs]
  have H := WirS.hide H0
  have E0 := WirS.hide e0
  clear hA hk hv H0 e0
  go_enter Try.func22, Try.ntmps22
  go_upto_region 1 with fail
  rw [show w.alloc (.cells t.cells.toArray 39) = W0 from E0.out.symm]
  go_wp2_with ((go_at_call 81; refine (H.out).mono ?_; rintro e w1 ⟨rfl, hs⟩; have HS := WirS.hide hs; clear hs))
  go_ret
  exact ⟨rfl, HS.out⟩
theorem ours5 (w : World) (p : Option Addr) (t : Td) (va : Option Addr) (vn vc : Nat) (hv : t.v = .slice va vn vc) (hk : t.kd = 5) (E : Int) (R : World → Prop)
    (H0 : Calls Try.prog 84 #[.pointer p, .int .u64 t.u] (PW w t) (Ans E R)) :
    Calls Try.prog 22 #[.pointer p, .agg t.cells.toArray] w (Ans E R) := by
  obtain ⟨W0, e0⟩ : ∃ X, X = PW w t := ⟨_, rfl⟩
  rw [← e0] at H0
  have hA : At W0 w.heap.size 39 t.cells := by rw [e0]; exact PW_at _ _
  have c0 : W0.cell? ⟨w.heap.size, 0, none⟩ = some (.int .i64 5) := by rw [hA.cell, ← hk]; rfl
  have c1 : W0.cell? ⟨w.heap.size, 1, none⟩ = some (.int .i64 t.n) := by rw [hA.cell]; rfl
  have c2 : W0.cell? ⟨w.heap.size, 2, none⟩ = some (.slice va vn vc) := by rw [hA.cell, ← hv]; rfl
  have c5 : W0.cell? ⟨w.heap.size, 39, none⟩ = some (.int .u64 t.u) := by rw [hA.cell, t.getU]
  have c6 : W0.cell? ⟨w.heap.size, 40, none⟩ = some (.bool t.is) := by rw [hA.cell, t.getIs]
  have H := WirS.hide H0
  have E0 := WirS.hide e0
  clear hA hk hv H0 e0
  go_enter Try.func22, Try.ntmps22
  go_upto_region 1 with fail
  rw [show w.alloc (.cells t.cells.toArray 39) = W0 from E0.out.symm]
  go_wp2_with ((go_at_call 84; refine (H.out).mono ?_; rintro e w1 ⟨rfl, hs⟩; have HS := WirS.hide hs; clear hs))
  go_ret
  exact ⟨rfl, HS.out⟩
theorem ours7 (w : World) (p : Option Addr) (t : Td) (va : Option Addr) (vn vc : Nat) (hv : t.v = .slice va vn vc) (hk : t.kd = 7) (E : Int) (R : World → Prop)
    (H0 : Calls Try.prog 86 #[.pointer p, .bool t.is] (PW w t) (Ans E R)) :
    Calls Try.prog 22 #[.pointer p, .agg t.cells.toArray] w (Ans E R) := by
  obtain ⟨W0, e0⟩ : ∃ X, X = PW w t := ⟨_, rfl⟩
  rw [← e0] at H0
  have hA : At W0 w.heap.size 39 t.cells := by rw [e0]; exact PW_at _ _
  have c0 : W0.cell? ⟨w.heap.size, 0, none⟩ = some (.int .i64 7) := by rw [hA.cell, ← hk]; rfl
  have c1 : W0.cell? ⟨w.heap.size, 1, none⟩ = some (.int .i64 t.n) := by rw [hA.cell]; rfl
  have c2 : W0.cell? ⟨w.heap.size, 2, none⟩ = some (.slice va vn vc) := by rw [hA.cell, ← hv]; rfl
  have c5 : W0.cell? ⟨w.heap.size, 39, none⟩ = some (.int .u64 t.u) := by rw [hA.cell, t.getU]
  have c6 : W0.cell? ⟨w.heap.size, 40, none⟩ = some (.bool t.is) := by rw [hA.cell, t.getIs]
  have H := WirS.hide H0
  have E0 := WirS.hide e0
  clear hA hk hv H0 e0
  go_enter Try.func22, Try.ntmps22
  go_upto_region 1 with fail
  rw [show w.alloc (.cells t.cells.toArray 39) = W0 from E0.out.symm]
  go_wp2_with ((go_at_call 86; refine (H.out).mono ?_; rintro e w1 ⟨rfl, hs⟩; have HS := WirS.hide hs; clear hs))
  go_ret
  exact ⟨rfl, HS.out⟩
theorem ours1 (w : World) (p : Option Addr) (t : Td) (va : Option Addr) (vn vc : Nat) (hv : t.v = .slice va vn vc) (zs : List Int) (hb : BIn w (.slice va vn vc) zs) (hk : t.kd = 1) (E : Int) (R : World → Prop)
    (H0 : Calls Try.prog 80 #[.pointer p, .string (st zs)] (PW w t) (Ans E R)) :
    Calls Try.prog 22 #[.pointer p, .agg t.cells.toArray] w (Ans E R) := by
  obtain ⟨W0, e0⟩ : ∃ X, X = PW w t := ⟨_, rfl⟩
  rw [← e0] at H0
  have hA : At W0 w.heap.size 39 t.cells := by rw [e0]; exact PW_at _ _
  have c0 : W0.cell? ⟨w.heap.size, 0, none⟩ = some (.int .i64 1) := by rw [hA.cell, ← hk]; rfl
  have c2 : W0.cell? ⟨w.heap.size, 2, none⟩ = some (.slice va vn vc) := by rw [hA.cell, ← hv]; rfl
  have hcv := conv_any W0 va vn vc zs (by rw [e0]; exact hb.below (PW_below _ _))
  have H := WirS.hide H0
  have E0 := WirS.hide e0
  clear hA hk hv H0 e0 hb
  go_enter Try.func22, Try.ntmps22
  go_upto_region 1 with fail
  rw [show w.alloc (.cells t.cells.toArray 39) = W0 from E0.out.symm]
  go_wp2_with ((go_at_call 80; refine (H.out).mono ?_; rintro e w1 ⟨rfl, hs⟩; have HS := WirS.hide hs; clear hs))
  go_ret
  exact ⟨rfl, HS.out⟩
theorem ours6 (w : World) (p : Option Addr) (t : Td) (x : Nat) (hu : t.u = (x : Int)) (hk : t.kd = 6) (E : Int) (R : World → Prop)
    (H0 : Calls Try.prog 85 #[.pointer p, .float .f64 x] (PW w t) (Ans E R)) :
    Calls Try.prog 22 #[.pointer p, .agg t.cells.toArray] w (Ans E R) := by
  obtain ⟨W0, e0⟩ : ∃ X, X = PW w t := ⟨_, rfl⟩
  rw [← e0] at H0
  have hA : At W0 w.heap.size 39 t.cells := by rw [e0]; exact PW_at _ _
  have c0 : W0.cell? ⟨w.heap.size, 0, none⟩ = some (.int .i64 6) := by rw [hA.cell, ← hk]; rfl
  have c5 : W0.cell? ⟨w.heap.size, 39, none⟩ = some (.int .u64 (x : Int)) := by rw [hA.cell, t.getU, hu]
  have hff := ffrom x
  have H := WirS.hide H0
  have E0 := WirS.hide e0
  clear hA hk hu H0 e0
  go_enter Try.func22, Try.ntmps22
  go_upto_region 1 with fail
  rw [show w.alloc (.cells t.cells.toArray 39) = W0 from E0.out.symm]
  go_wp2_with ((go_at_call 85; refine (H.out).mono ?_; rintro e w1 ⟨rfl, hs⟩; have HS := WirS.hide hs; clear hs))
  go_ret
  exact ⟨rfl, HS.out⟩
theorem ours3 (w : World) (p : Option Addr) (t : Td) (hk : t.kd = 3) (E : Int) (R : World → Prop)
    (H0 : Calls Try.prog 82 #[.pointer p, .agg (b8 t.h).toArray] (PW w t) (Ans E R)) :
    Calls Try.prog 22 #[.pointer p, .agg t.cells.toArray] w (Ans E R) := by
  obtain ⟨W0, e0⟩ : ∃ X, X = PW w t := ⟨_, rfl⟩
  rw [← e0] at H0
  have hA : At W0 w.heap.size 39 t.cells := by rw [e0]; exact PW_at _ _
  have c0 : W0.cell? ⟨w.heap.size, 0, none⟩ = some (.int .i64 3) := by rw [hA.cell, ← hk]; rfl
  have HRg := WirS.hide (rangeH hA)
  have H := WirS.hide H0
  have E0 := WirS.hide e0
  clear hA hk H0 e0
  go_enter Try.func22, Try.ntmps22
  go_upto_region 1 with fail
  rw [show w.alloc (.cells t.cells.toArray 39) = W0 from E0.out.symm]
  go_upto_region 9 with fail
  refine wp_region_lit ?_
  refine sV (.pointer p) (W0) (by kernel_rfl) (by kernel_rfl) ?_
  simp only [Act.put, List.setIfInBounds_toArray, List.set_cons_succ, List.set_cons_zero]
  refine sV (.pointer (some ⟨w.heap.size, 3, none⟩)) (W0) (by kernel_rfl) (by kernel_rfl) ?_
  simp only [Act.put, List.setIfInBounds_toArray, List.set_cons_succ, List.set_cons_zero]
  refine wpList_load_mid (by rfl) _ _ (by rfl) w.heap.size 3 (by kernel_rfl) (b8 t.h) _ HRg.out Try.underlying34 (by rfl) (by rw [b8_len, t.lh]; kernel_rfl) ?_
  simp only [Act.put, List.setIfInBounds_toArray, List.set_cons_succ, List.set_cons_zero]
  refine sC (by kernel_rfl) (by kernel_rfl) H.out ?_
  intro w6 hs
  simp only [Act.put, List.setIfInBounds_toArray, List.set_cons_succ, List.set_cons_zero]
  have HS := WirS.hide hs
  clear hs
  go_wp2_with fail
  go_ret
  exact ⟨rfl, HS.out⟩
theorem ours4 (w : World) (p : Option Addr) (t : Td) (hk : t.kd = 4) (E : Int) (R : World → Prop)
    (H0 : Calls Try.prog 83 #[.pointer p, .agg (b8 t.k).toArray] (PW w t) (Ans E R)) :
    Calls Try.prog 22 #[.pointer p, .agg t.cells.toArray] w (Ans E R) := by
  obtain ⟨W0, e0⟩ : ∃ X, X = PW w t := ⟨_, rfl⟩
  rw [← e0] at H0
  have hA : At W0 w.heap.size 39 t.cells := by rw [e0]; exact PW_at _ _
  have c0 : W0.cell? ⟨w.heap.size, 0, none⟩ = some (.int .i64 4) := by rw [hA.cell, ← hk]; rfl
  have HRg := WirS.hide (rangeK hA)
  have H := WirS.hide H0
  have E0 := WirS.hide e0
  clear hA hk H0 e0
  go_enter Try.func22, Try.ntmps22
  go_upto_region 1 with fail
  rw [show w.alloc (.cells t.cells.toArray 39) = W0 from E0.out.symm]
  go_upto_region 11 with fail
  refine wp_region_lit ?_
  refine sV (.pointer p) (W0) (by kernel_rfl) (by kernel_rfl) ?_
  simp only [Act.put, List.setIfInBounds_toArray, List.set_cons_succ, List.set_cons_zero]
  refine sV (.pointer (some ⟨w.heap.size, 35, none⟩)) (W0) (by kernel_rfl) (by kernel_rfl) ?_
  simp only [Act.put, List.setIfInBounds_toArray, List.set_cons_succ, List.set_cons_zero]
  refine wpList_load_mid (by rfl) _ _ (by rfl) w.heap.size 35 (by kernel_rfl) (b8 t.k) _ HRg.out Try.underlying36 (by rfl) (by rw [b8_len, t.lk]; kernel_rfl) ?_
  simp only [Act.put, List.setIfInBounds_toArray, List.set_cons_succ, List.set_cons_zero]
  refine sC (by kernel_rfl) (by kernel_rfl) H.out ?_
  intro w6 hs
  simp only [Act.put, List.setIfInBounds_toArray, List.set_cons_succ, List.set_cons_zero]
  have HS := WirS.hide hs
  clear hs
  go_wp2_with fail
  go_ret
  exact ⟨rfl, HS.out⟩
theorem oursE (w : World) (p : Option Addr) (t : Td) (hk : ¬ (0 ≤ t.kd ∧ t.kd ≤ 7)) :
    Calls Try.prog 22 #[.pointer p, .agg t.cells.toArray] w (Ans 0 fun w' => w' = PW w t) := by
  obtain ⟨W0, e0⟩ : ∃ X, X = PW w t := ⟨_, rfl⟩
  have hA : At W0 w.heap.size 39 t.cells := by rw [e0]; exact PW_at _ _
  have c0 : W0.cell? ⟨w.heap.size, 0, none⟩ = some (.int .i64 t.kd) := by rw [hA.cell]; rfl
  have E0 := WirS.hide e0
  have h0 : (t.kd == 0) = false := by simp; omega
  have h1 : (t.kd == 1) = false := by simp; omega
  have h2 : (t.kd == 2) = false := by simp; omega
  have h3 : (t.kd == 3) = false := by simp; omega
  have h4 : (t.kd == 4) = false := by simp; omega
  have h5 : (t.kd == 5) = false := by simp; omega
  have h6 : (t.kd == 6) = false := by simp; omega
  have h7 : (t.kd == 7) = false := by simp; omega
  clear hA hk e0
  go_enter Try.func22, Try.ntmps22
  go_upto_region 1 with fail
  rw [show w.alloc (.cells t.cells.toArray 39) = W0 from E0.out.symm]
  go_wp2_with fail
  go_ret
  exact ⟨rfl, E0.out⟩
def inK (t : Td) : Prop := 0 ≤ t.kd ∧ t.kd ≤ 7
/-- What is answered; the state behind: its error, its bytes. -/
def tE (lim err : Int) (zs : List Int) (t : Td) (bs : List Int) : Int :=
  if 0 ≤ t.kd ∧ t.kd ≤ 7 then (if t.kd = 0 ∧ t.n < 0 then (if err ≠ 0 then err else 3) else putE lim err zs (form t bs).length) else 0
def sE (lim err : Int) (zs : List Int) (t : Td) (bs : List Int) : Int := if 0 ≤ t.kd ∧ t.kd ≤ 7 then tE lim err zs t bs else err
def sZ (lim err : Int) (zs : List Int) (t : Td) (bs : List Int) : List Int :=
  if 0 ≤ t.kd ∧ t.kd ≤ 7 then (if t.kd = 0 ∧ t.n < 0 then zs else putZ lim err zs (form t bs)) else zs
def PutP (w0 : World) (l : List Thg) (W : Nat) (lim : Int) (zs' : List Int) (err' : Int) (w' : World) : Prop := ∃ v', Bag w0 w' (wtr W lim v' zs' err' :: l)
def PutR (w0 : World) (l : List Thg) (X : Nat) (lim : Int) (zs' : List Int) (err' : Int) (w' : World) : Prop := ∃ v', Bag w0 w' (rwt X lim v' zs' err' :: l)
set_option maxHeartbeats 1600000 in
theorem puts_all (w0 w : World) (l : List Thg) (W : Nat) (lim : Int) (v : Value) (ys : List Int) (err : Int) (t : Td) (va : Option Addr) (vn vc : Nat) (zs : List Int) (h : Bag w0 w (wtr W lim v ys err :: l))
    (ht : Wf w t va vn vc zs) (hap : zs ≠ [] → Apart W v (.slice va vn vc)) (hs : zs.length ≤ 1048576) :
    Calls Try.prog 21 #[.pointer (some ⟨W, 0, none⟩), .agg t.cells.toArray] w (Ans (tE lim err ys t zs) (PutP w0 l W lim (sZ lim err ys t zs) (sE lim err ys t zs))) := by
  have hb := PW_below w t
  have hB := h.more hb
  have hlen := ht.len
  have ht' := ht.more hb (Below.refl _ _)
  obtain ⟨x, hx⟩ := Int.eq_ofNat_of_zero_le ht.u0
  have hu1 := ht.u1
  have hn1 := ht.n1
  by_cases hk : 0 ≤ t.kd ∧ t.kd ≤ 7
  · have e2 : sE lim err ys t zs = tE lim err ys t zs := by unfold sE; rw [if_pos hk]
    rw [e2]
    by_cases hneg : t.kd = 0 ∧ t.n < 0
    · have e1 : tE lim err ys t zs = (if err ≠ 0 then err else 3) := by unfold tE; rw [if_pos hk, if_pos hneg]
      have e3 : sZ lim err ys t zs = ys := by unfold sZ; rw [if_pos hk, if_pos hneg]
      rw [e1, e3]
      exact puts0 w _ t va vn vc ht.hv hneg.1 _ _ ((bw_of hB (WirE.num_neg _ W lim v ys err t.n hneg.2 hB.head)).mono fun _ _ hh => hh)
    · have e1 : tE lim err ys t zs = putE lim err ys (form t zs).length := by unfold tE; rw [if_pos hk, if_neg hneg]
      have e3 : sZ lim err ys t zs = putZ lim err ys (form t zs) := by unfold sZ; rw [if_pos hk, if_neg hneg]
      rw [e1, e3]
      have fin : ∀ {f : FuncId} {args : Array Value} (news : List Int), news = form t zs → Calls Try.prog f args (PW w t) (Wrote (PW w t) W lim v (putZ lim err ys news) (putE lim err ys news.length)) → Calls Try.prog f args (PW w t) (Ans (putE lim err ys (form t zs).length) (PutP w0 l W lim (putZ lim err ys (form t zs)) (putE lim err ys (form t zs).length))) := fun news e C => by
        subst e
        exact (bw_of hB C).mono fun _ _ hh => hh
      obtain k | k | k | k | k | k | k | k : t.kd = 0 ∨ t.kd = 1 ∨ t.kd = 2 ∨ t.kd = 3 ∨ t.kd = 4 ∨ t.kd = 5 ∨ t.kd = 6 ∨ t.kd = 7 := by omega
      · exact puts0 w _ t va vn vc ht.hv k _ _ (fin (numB t.n) (by simp [form, k]) (WirE.num_any _ W lim v ys err t.n (by omega) (by omega) hB.head))
      · exact puts1 w _ t va vn vc ht.hv zs ht.bin k _ _ (fin (numB (st zs).size ++ tb (st zs)) (by simp [form, k, st_size, tb_st zs ht.rz]) (WirE.text_any _ W lim v ys err (st zs) (by rw [st_size]; omega) hB.head))
      · exact puts2 w _ t va vn vc ht.hv k _ _ (fin (numB vn ++ zs) (by simp [form, k, hlen]) (bytes_any2 _ W lim v ys err va vn vc zs ht'.bin hap (by omega) hB.head))
      · exact puts3 w _ t k _ _ (fin t.h (by simp [form, k]) (WirF.hash_any _ W lim v ys err t.h t.lh hB.head))
      · exact puts4 w _ t k _ _ (fin t.k (by simp [form, k]) (WirF.key_any _ W lim v ys err t.k t.lk hB.head))
      · exact puts5 w _ t va vn vc ht.hv k _ _ (fin (wordB t.u) (by simp [form, k]) (WirF.word_any _ W lim v ys err t.u ht.u0 ht.u1 hB.head))
      · exact puts6 w _ t x hx k _ _ (fin (wordB (canon x : Int)) (by simp [form, k, hx]) (wpace_any _ W lim v ys err x (by omega) hB.head))
      · exact puts7 w _ t va vn vc ht.hv k _ _ (fin (boolB t.is) (by simp [form, k]) (WirF.bool_any _ W lim v ys err t.is hB.head))
  · have e1 : tE lim err ys t zs = 0 := by unfold tE; rw [if_neg hk]
    have e2 : sE lim err ys t zs = err := by unfold sE; rw [if_neg hk]
    have e3 : sZ lim err ys t zs = ys := by unfold sZ; rw [if_neg hk]
    rw [e1, e2, e3]
    exact (putsE w _ t hk).mono fun _ _ ⟨h1, h2⟩ => ⟨h1, v, by rw [h2]; exact hB⟩
set_option maxHeartbeats 1600000 in
theorem ours_all (w0 w : World) (l : List Thg) (W : Nat) (lim : Int) (v : Value) (ys : List Int) (err : Int) (t : Td) (va : Option Addr) (vn vc : Nat) (zs : List Int) (h : Bag w0 w (rwt W lim v ys err :: l))
    (ht : Wf w t va vn vc zs) (hs : zs.length ≤ 1048576) :
    Calls Try.prog 22 #[.pointer (some ⟨W, 0, none⟩), .agg t.cells.toArray] w (Ans (tE lim err ys t zs) (PutR w0 l W lim (sZ lim err ys t zs) (sE lim err ys t zs))) := by
  have hb := PW_below w t
  have hB := h.more hb
  have hlen := ht.len
  have ht' := ht.more hb (Below.refl _ _)
  obtain ⟨x, hx⟩ := Int.eq_ofNat_of_zero_le ht.u0
  have hu1 := ht.u1
  have hn1 := ht.n1
  by_cases hk : 0 ≤ t.kd ∧ t.kd ≤ 7
  · have e2 : sE lim err ys t zs = tE lim err ys t zs := by unfold sE; rw [if_pos hk]
    rw [e2]
    by_cases hneg : t.kd = 0 ∧ t.n < 0
    · have e1 : tE lim err ys t zs = (if err ≠ 0 then err else 3) := by unfold tE; rw [if_pos hk, if_pos hneg]
      have e3 : sZ lim err ys t zs = ys := by unfold sZ; rw [if_pos hk, if_pos hneg]
      rw [e1, e3]
      exact ours0 w _ t va vn vc ht.hv hneg.1 _ _ ((WrwC.num_neg w0 _ l W lim v ys err t.n hB hneg.2).mono fun _ _ hh => hh)
    · have e1 : tE lim err ys t zs = putE lim err ys (form t zs).length := by unfold tE; rw [if_pos hk, if_neg hneg]
      have e3 : sZ lim err ys t zs = putZ lim err ys (form t zs) := by unfold sZ; rw [if_pos hk, if_neg hneg]
      rw [e1, e3]
      have fin : ∀ {f : FuncId} {args : Array Value} (news : List Int), news = form t zs → Calls Try.prog f args (PW w t) (RBW w0 l W lim (putZ lim err ys news) (putE lim err ys news.length)) → Calls Try.prog f args (PW w t) (Ans (putE lim err ys (form t zs).length) (PutR w0 l W lim (putZ lim err ys (form t zs)) (putE lim err ys (form t zs).length))) := fun news e C => by
        subst e
        exact C.mono fun _ _ hh => hh
      obtain k | k | k | k | k | k | k | k : t.kd = 0 ∨ t.kd = 1 ∨ t.kd = 2 ∨ t.kd = 3 ∨ t.kd = 4 ∨ t.kd = 5 ∨ t.kd = 6 ∨ t.kd = 7 := by omega
      · exact ours0 w _ t va vn vc ht.hv k _ _ (fin (numB t.n) (by simp [form, k]) (WrwC.num_any w0 _ l W lim v ys err t.n hB (by omega) (by omega)))
      · exact ours1 w _ t va vn vc ht.hv zs ht.bin k _ _ (fin (numB (st zs).size ++ tb (st zs)) (by simp [form, k, st_size, tb_st zs ht.rz]) (WrwC.text_any w0 _ l W lim v ys err (st zs) hB (by rw [st_size]; omega)))
      · exact ours2 w _ t va vn vc ht.hv k _ _ (fin (numB vn ++ zs) (by simp [form, k, hlen]) (WrwC.bytes_any w0 _ l W lim v ys err va vn vc zs hB ht'.bin (by omega)))
      · exact ours3 w _ t k _ _ (fin t.h (by simp [form, k]) (WrwC.hash_any w0 _ l W lim v ys err t.h t.lh hB))
      · exact ours4 w _ t k _ _ (fin t.k (by simp [form, k]) (WrwC.key_any w0 _ l W lim v ys err t.k t.lk hB))
      · exact ours5 w _ t va vn vc ht.hv k _ _ (fin (wordB t.u) (by simp [form, k]) (WrwC.word_any w0 _ l W lim v ys err t.u hB ht.u0))
      · exact ours6 w _ t x hx k _ _ (fin (wordB (canon x : Int)) (by simp [form, k, hx]) (pace_any w0 _ l W lim v ys err x hB))
      · exact ours7 w _ t va vn vc ht.hv k _ _ (fin (boolB t.is) (by simp [form, k]) (WrwC.bool_any w0 _ l W lim v ys err t.is hB))
  · have e1 : tE lim err ys t zs = 0 := by unfold tE; rw [if_neg hk]
    have e2 : sE lim err ys t zs = err := by unfold sE; rw [if_neg hk]
    have e3 : sZ lim err ys t zs = ys := by unfold sZ; rw [if_neg hk]
    rw [e1, e2, e3]
    exact (oursE w _ t hk).mono fun _ _ ⟨h1, h2⟩ => ⟨h1, v, by rw [h2]; exact hB⟩
end WrwD
end Go.Proofs.Ythhnojnpjbklpaa

namespace Go.Proofs.Ythhnojnpjbklpaa
namespace WrwE
open Go.RowKit PaceA FltC
open BlkM WirM WirS WirA WirZ WrwA WrwB WrwD ValSF
open WirB (Apart)
open WirE (NewB)
open WirX (Thg Bag own wtr bag_wtr bag_own)
open WirBA (Te LIn isLong long_any long_no)
open WirBF (opX fm_rng fm)
open WirNA (Wf)
open WirAA (form box bag_box bag_set)
open WirAB (thing0 t0_len one_cells sCx)
open WirRT (rng)

/-- A call as a step of a drawn region. -/
theorem stepCallH {P : Program} {o : Oper} {a : Act} {w : World} {K : Act → World → Prop} {Q : Exit → Act → World → Prop} {f : FuncId} {args : Array Value} {v : Value} {R : World → Prop} (hrun : (execOp a.eval o).run P w = .ok (.enter f args) w)
    (hc : Calls P f args w fun e w' => e = .returned v ∧ R w') (h : ∀ w', R w' → K (a.put o.dst v) w') : o.wp P a w K Q := by
  unfold Oper.wp
  rw [hrun, Oper.upon_enter]
  exact hc.mono (by rintro e w' ⟨rfl, hr⟩; exact h w' hr)
abbrev TT : TypeId := 39
theorem rangeAt0 {w : World} {X : Nat} {T : TypeId} {cs : List Value} (h : At w X T cs) : w.rangeAt X 0 cs := fun j v hj => by
  rw [Nat.zero_add, h.cell]
  exact hj
theorem bag_row {w0 w : World} {l : List Thg} {T : TypeId} {X : Nat} {cs : List Value} (h : Bag w0 w (box T X cs :: l)) (c : List Value) : Bag w0 (w.setRow X c.toArray) (box T X c :: l) :=
  h.act (WirO.Fr.setRow (Fr.refl _ _) X _ (fun _ => rfl)) (At.put h.head c) (fun _ hk => .inl hk)
theorem al_th (a : Operand → Value) (o : Oper) (ho : o.op = Op.alloc 39) (W : World) : (execOp a o).run Try.prog W = .ok (.value (.pointer (some ⟨W.heap.size, 0, none⟩))) (W.alloc (.cells (thing0 0).cells.toArray 39)) := by
  unfold execOp
  rw [ho]
  kernel_rfl
theorem low_range {w U : World} {B p : Nat} {cs : List Value} (hb : Below w.heap.size w U) (hB : B < w.heap.size) (hr : w.rangeAt B p cs) : U.rangeAt B p cs := fun j v hj => (hb.cell (p := ⟨B, _, none⟩) hB).trans (hr j v hj)
theorem cell2 {w : World} {B p : Nat} {t : Td} (hr : w.rangeAt B p t.cells) : w.cell? ⟨B, p + 2, none⟩ = some t.v := hr 2 t.v rfl
/-- The thing handed in, its bytes lent. -/
def tl (t : Td) (g n c : Nat) : Td := { t with v := .slice (some ⟨g, 0, none⟩) n c }
def lentT (g n c : Nat) (bs : List Int) : Thg where
  ok w := Lent w g n c bs
  foot k := k = g
  stable h hf hX := h.fr hf (hX g rfl)
  inside h k hk := by subst hk; exact h.lt
theorem held {w U : World} {l : List Thg} {A B p : Nat} {t t' : Td} {sl sl' : Value} (h : Bag w U l) (hm : box TT A t'.cells ∈ l) (hB : B < w.heap.size) (hr : w.rangeAt B p t.cells) (h1 : t'.v = sl') (h2 : t.v = sl) :
    U.rangeAt A 0 t'.cells ∧ U.cell? ⟨A, 2, none⟩ = some sl' ∧ U.rangeAt B p t.cells ∧ U.cell? ⟨B, p + 2, none⟩ = some sl := by
  have ha : At U A TT t'.cells := (h.all _ hm).1
  have hr' := low_range h.low hB hr
  exact ⟨rangeAt0 ha, by rw [ha.cell, ← h1]; rfl, hr', by rw [← h2]; exact cell2 hr'⟩
/-- What Done tells. -/
def dn (err : Int) (zs : List Int) : List Int := if err = 0 then zs else []
theorem p_done {w0 w : World} {l : List Thg} {W : Nat} {lim : Int} {v : Value} {zs : List Int} {err : Int} (h : Bag w0 w (wtr W lim v zs err :: l)) :
    Calls Try.prog 25 #[.pointer (some ⟨W, 0, none⟩)] w fun e w' => ∃ va vn vc, e = .returned (.tuple #[.slice va vn vc, .int .i64 err]) ∧ Bag w0 w' (own (.slice va vn vc) (dn err zs) :: wtr W lim v zs err :: l) := by
  unfold dn
  by_cases he : err = 0
  · subst he
    rw [if_pos rfl]
    exact (WirF.done_ok w W lim v zs h.head).mono fun e w' ⟨va, vn, vc, h1, h2, h3, h4⟩ => ⟨va, vn, vc, h1, bag_own h h2 h3 h4⟩
  · rw [if_neg he]
    exact (WirF.done_err w W lim v zs err h.head he).mono fun e w' ⟨h1, h2⟩ => by
      subst h2
      exact ⟨none, 0, 0, h1, bag_own h (WirM.Own.nil w _) (fun k hk => by simp [Value.ownBlock] at hk) (Below.refl _ _)⟩
theorem r_done {w0 w : World} {l : List Thg} {W : Nat} {lim : Int} {v : Value} {zs : List Int} {err : Int} (h : Bag w0 w (rwt W lim v zs err :: l)) :
    Calls Try.prog 26 #[.pointer (some ⟨W, 0, none⟩)] w fun e w' => ∃ va vn vc, e = .returned (.tuple #[.slice va vn vc, .int .i64 err]) ∧ Bag w0 w' (own (.slice va vn vc) (dn err zs) :: rwt W lim v zs err :: l) := by
  unfold dn
  by_cases he : err = 0
  · subst he
    rw [if_pos rfl]
    exact (WrwB.done_ok w W lim v zs h.head).mono fun e w' ⟨va, vn, vc, h1, h2, h3, h4⟩ => ⟨va, vn, vc, h1, bag_own h h2 h3 h4⟩
  · rw [if_neg he]
    exact (WrwB.done_err w W lim v zs err h.head he).mono fun e w' ⟨h1, h2⟩ => ⟨none, 0, 0, h1, bag_own h (WirM.Own.nil w' _) (fun k hk => by simp [Value.ownBlock] at hk) h2⟩
theorem dn_rng {err : Int} {zs : List Int} (h : rng zs) : rng (dn err zs) := by
  unfold dn
  split
  · exact h
  · intro x hx; cases hx
theorem sZ_rng {lim err : Int} {ys : List Int} {x : Te} (hy : rng ys) (hz : rng x.zs) (hh : rng x.t.h) (hk : rng x.t.k) (hl : x.zs.length ≤ 300) (hn : x.t.n ≤ 9223372036854775807) : rng (sZ lim err ys x.t x.zs) := by
  unfold sZ
  split
  · rename_i hk7
    have hf := fm_rng x hz hh hk hl hn
    unfold fm at hf
    rw [if_pos hk7] at hf
    split
    · exact hy
    · unfold putZ
      split
      · intro z h
        rcases List.mem_append.1 h with h | h
        · exact hy z h
        · exact hf z h
      · exact hy
  · exact hy
theorem dn_len (err : Int) (zs : List Int) : (dn err zs).length ≤ zs.length := by
  unfold dn
  split
  · exact Nat.le_refl _
  · exact Nat.zero_le _
theorem k_sb (w : World) (a b : Option Addr) (n c m d : Nat) (zs : List Int) (hx : BIn w (.slice a n c) zs) (hy : BIn w (.slice b m d) zs) (rz : rng zs) :
    Calls Try.prog 27 #[.slice a n c, .slice b m d] w fun e w' => e = .returned (.bool true) ∧ w = w' :=
  (WirU.same_any w a b n c m d zs zs hx hy rz rz).mono fun _ _ ⟨h1, h2⟩ => ⟨by rw [h1]; simp, h2⟩
def MidP (w : World) (W X : Nat) (lim : Int) (ln : Nat) (i : Value) (U : World) : Prop :=
  ∃ (k : Nat) (v v' : Value) (zs : List Int) (err : Int), k ≤ ln ∧ i = .int .i64 (k : Int) ∧ rng zs ∧ Bag w U [wtr W lim v zs err, rwt X lim v' zs err]
theorem perm4 (a b c d : Thg) : List.Perm [a, b, c, d] [c, d, a, b] := List.perm_append_comm (l₁ := [a, b]) (l₂ := [c, d])
theorem perm4b (a b c d : Thg) : List.Perm [a, b, c, d] [c, d, b, a] := (List.Perm.swap b a [c, d]).trans (List.perm_append_comm (l₁ := [b, a]) (l₂ := [c, d]))
theorem wf_lent {w U : World} {t : Td} {va : Option Addr} {vn vc g cL : Nat} {zs : List Int} (h : Wf w t va vn vc zs) (hl : Lent U g vn cL zs) : Wf U (tl t g vn cL) (some ⟨g, 0, none⟩) vn cL zs :=
  ⟨rfl, hl.head, h.rz, h.n0, h.n1, h.u0, h.u1⟩
set_option maxRecDepth 10000 in
set_option maxHeartbeats 8000000 in
theorem writes_row (w : World) (lim : Int) (la : Option Addr) (ln lc : Nat) (ts : List Te) (hL : LIn w la ln ts) :
    Calls Try.prog 3 #[.int .i64 lim, .slice la ln lc] w fun e w' => e = .returned (.bool true) ∧ Below w.heap.size w w' := by
  have HL := WirS.hide hL
  clear hL
  have hp1 : ∀ W, (binOp .eql 25 (.pointer none) (.pointer none)).run Try.prog W = .ok (.bool true) W := fun W => by kernel_rfl
  have hp2 : ∀ W, (binOp .eql 29 (.pointer none) (.pointer none)).run Try.prog W = .ok (.bool true) W := fun W => by kernel_rfl
  have hp3 : ∀ W, (binOp .neq 29 (.pointer none) (.pointer none)).run Try.prog W = .ok (.bool false) W := fun W => by kernel_rfl
  cases hlong : isLong ts with
  | true =>
    have HG := WirS.hide hlong
    clear hlong
    go_enter Try.func3, Try.ntmps3
    go_wp2_with (first | (go_at_call 17; refine (WirV.awake_any _).mono ?_; rintro e u ⟨rfl, hb⟩; have HB := WirS.hide hb; clear hb) | (go_at_call 16; refine (show Calls _ _ _ _ (fun e w' => e = .returned (.bool true) ∧ w' = _) from HG.out ▸ long_any _ la ln lc ts HL.out).mono ?_; rintro e w2 ⟨rfl, he⟩; obtain rfl := he.symm))
    go_ret
    exact ⟨rfl, HB.out⟩
  | false =>
    have HG := WirS.hide hlong
    have hl30 : ln ≤ 30 := by have h1 := HL.out.len; have h2 := (long_no hlong).1; omega
    clear hlong
    by_cases hbad : lim < 0 ∨ 1048576 < lim
    · have HN1 := WirS.hide (fun U => WirF.new_no U lim hbad)
      have HN2 := WirS.hide (fun U => WrwB.new_no U lim hbad)
      clear hbad
      go_enter Try.func3, Try.ntmps3
      go_wp2_with (first
        | (go_at_call 16; refine (show Calls _ _ _ _ (fun e w' => e = .returned (.bool false) ∧ w' = _) from HG.out ▸ long_any _ la ln lc ts HL.out).mono ?_; rintro e w2 ⟨rfl, he⟩; obtain rfl := he.symm)
        | (go_at_call 18; refine (HN1.out _).mono ?_; rintro e w3 ⟨rfl, he⟩; obtain rfl := he)
        | (go_at_call 19; refine (HN2.out _).mono ?_; rintro e w4 ⟨rfl, he⟩; obtain rfl := he))
      go_loopw [9] (fun i wr => i = .int .i64 0 ∧ Below w.heap.size w wr) (fun _ _ => 0)
      case atStart => exact ⟨rfl, Below.refl _ _⟩
      case round =>
        obtain ⟨rfl, hlow⟩ := hrel
        have HLO := WirS.hide hlow
        clear hlow
        go_wp2_with (go_at_call 17; refine (WirV.awake_any _).mono ?_; rintro e u ⟨rfl, hb⟩; have HF := WirS.hide (HLO.out.trans (hb.mono HLO.out.size)); clear hb)
        go_ret
        exact ⟨rfl, HF.out⟩
    · have h0 : 0 ≤ lim := by omega
      have h1 : lim ≤ 1048576 := by omega
      have HN1 := WirS.hide (fun U => WirF.new_any U lim h0 h1)
      have HN2 := WirS.hide (fun U => WrwB.new_any U lim h0 h1)
      clear hbad
      go_enter Try.func3, Try.ntmps3
      go_upto_region 5 with (first
        | (go_at_call 16; refine (show Calls _ _ _ _ (fun e w' => e = .returned (.bool false) ∧ w' = _) from HG.out ▸ long_any _ la ln lc ts HL.out).mono ?_; rintro e w2 ⟨rfl, he⟩; obtain rfl := he.symm)
        | (go_at_call 18; refine (HN1.out _).mono ?_; rintro e w3 ⟨W, rfl, hW, hs, hb⟩; have H1 := WirS.hide (bag_wtr (Bag.nil (Below.refl w.heap.size w)) hW hs (fun k hk => by simp [Value.ownBlock] at hk) hb); clear hW hs hb)
        | (go_at_call 19; refine (HN2.out _).mono ?_; rintro e w4 ⟨X, rfl, hX, hs, hb⟩; have H2 := WirS.hide (H1.out.new (o := rwt X lim (.slice none 0 0) [] 0) hb hs (fun k hk => by (rcases hk with rfl | hk; exact hX; cases hk))).swap; clear hX hs hb H1))
      have hq1 : ∀ U, (binOp .eql 25 (.pointer (some ⟨W, 0, none⟩)) (.pointer none)).run Try.prog U = .ok (.bool false) U := fun U => by kernel_rfl
      have hq2 : ∀ U, (binOp .eql 29 (.pointer (some ⟨X, 0, none⟩)) (.pointer none)).run Try.prog U = .ok (.bool false) U := fun U => by kernel_rfl
      have hq3 : ∀ U, (binOp .neq 29 (.pointer (some ⟨X, 0, none⟩)) (.pointer none)).run Try.prog U = .ok (.bool true) U := fun U => by kernel_rfl
      have HST := WirS.hide (show MidP w W X lim ln (.int .i64 0) w4 from ⟨0, _, _, [], 0, Nat.zero_le _, rfl, (fun x hx => by cases hx), H2.out⟩)
      clear H2 HN1 HN2
      go_wp2_with fail
      go_loopw [9] (fun i wr => MidP w W X lim ln i wr) (fun i _ => ln - (intOf i).toNat)
      case atStart => exact HST.out
      case round =>
        clear HST
        obtain ⟨k, v, v', zs, err, hk, rfl, hrz, hbag⟩ := hrel
        have HBg := WirS.hide hbag
        have HRZ := WirS.hide hrz
        clear hbag hrz
        by_cases hlt : k < ln
        · obtain ⟨x, B, o, hx, hmem, rfl, hBl, hr⟩ := HL.out.cell hlt
          have hkl : (k : Int) < (ln : Int) := by omega
          have HR := WirS.hide hr
          have HX := WirS.hide (HL.out.wf x hmem)
          have HS3 := WirS.hide ((long_no HG.out).2 x hmem)
          obtain ⟨va, vn, vc, hv⟩ : ∃ va vn vc, x.t.v = .slice va vn vc := ⟨_, _, _, HX.out.1.hv⟩
          have hvq := HX.out.1.hv
          have hva : va = x.va ∧ vn = x.vn ∧ vc = x.vc := by rw [hv] at hvq; injection hvq with h1 h2 h3; exact ⟨h1, h2, h3⟩
          have HWF : Hid (Wf w x.t va vn vc x.zs) := WirS.hide (by rw [hva.1, hva.2.1, hva.2.2]; exact HX.out.1)
          have HVN : Hid (vn ≤ 300) := WirS.hide (by rw [hva.2.1]; exact HS3.out)
          clear hx hmem hr hvq hva
          have HLB := WirS.hide (fun (U : World) (hU : Below w.heap.size w U) => lent_any U va vn vc x.zs (HWF.out.bin.below hU) (by have := HVN.out; omega))
          have HRW := WirS.hide (low_range HBg.out.low hBl HR.out)
          go_upto_region 10 with fail
          refine wp_region_lit ?_
          refine sV (.slice (some ⟨B, o, none⟩) ln lc) (wr) (by kernel_rfl) (by kernel_rfl) ?_
          simp only [Act.put, List.setIfInBounds_toArray, List.set_cons_succ, List.set_cons_zero]
          refine sV (.int .i64 (k : Int)) (wr) (by kernel_rfl) (by kernel_rfl) ?_
          simp only [Act.put, List.setIfInBounds_toArray, List.set_cons_succ, List.set_cons_zero]
          refine sV (.pointer (some ⟨B, o + k * 41, none⟩)) wr (by kernel_rfl) (opX _ _ _ _ B o ln lc k rfl (by kernel_rfl) (by kernel_rfl) hlt wr) ?_
          simp only [Act.put, List.setIfInBounds_toArray, List.set_cons_succ, List.set_cons_zero]
          refine wpList_load_mid (by rfl) _ _ (by rfl) B (o + k * 41) (by kernel_rfl) x.t.cells _ HRW.out Try.underlying39 (by rfl) (by rw [x.t.len]; kernel_rfl) ?_
          simp only [Act.put, List.setIfInBounds_toArray, List.set_cons_succ, List.set_cons_zero]
          refine sV (.pointer (some ⟨wr.heap.size, 0, none⟩)) (wr.alloc (.cells (thing0 0).cells.toArray 39)) (by kernel_rfl) (al_th _ _ (by rfl) wr) ?_
          simp only [Act.put, List.setIfInBounds_toArray, List.set_cons_succ, List.set_cons_zero]
          obtain ⟨A, eA⟩ : ∃ A, wr.heap.size = A := ⟨_, rfl⟩
          have hbA := bag_box (T := TT) (cs := (thing0 0).cells) (X := A) HBg.out eA.symm (w' := wr.alloc (.cells (thing0 0).cells.toArray 39)) (by rw [← eA]; exact At.new _ _ _) (Below.alloc (Below.refl _ _) (Nat.le_refl _) _)
          rw [eA]
          clear eA HRW HBg
          generalize World.alloc wr _ = x1 at *
          refine stepStore (by rfl) _ _ _ (by rfl) A x.t.cells (by kernel_rfl) (by kernel_rfl) hbA.head 41 (by kernel_rfl) (t0_len 0) x.t.len (all_oneCell_toArray (one_cells _ (by rw [hv]; rfl))) ?_
          simp only [Act.put]
          have H1 := WirS.hide (bag_row hbA x.t.cells)
          clear hbA
          generalize World.setRow x1 A _ = y1 at *
          have hcx : y1.cell? ⟨B, o + k * 41 + 2, none⟩ = some (.slice va vn vc) := by rw [← hv]; exact cell2 (low_range H1.out.low hBl HR.out)
          have HQ1 := WirS.hide (HLB.out y1 H1.out.low)
          go_upto_region 11 with fail
          refine wp_region_lit ?_
          refine sV (.slice (some ⟨B, o, none⟩) ln lc) (y1) (by kernel_rfl) (by kernel_rfl) ?_
          simp only [Act.put, List.setIfInBounds_toArray, List.set_cons_succ, List.set_cons_zero]
          refine sV (.int .i64 (k : Int)) (y1) (by kernel_rfl) (by kernel_rfl) ?_
          simp only [Act.put, List.setIfInBounds_toArray, List.set_cons_succ, List.set_cons_zero]
          refine sV (.pointer (some ⟨B, o + k * 41, none⟩)) y1 (by kernel_rfl) (opX _ _ _ _ B o ln lc k rfl (by kernel_rfl) (by kernel_rfl) hlt y1) ?_
          simp only [Act.put, List.setIfInBounds_toArray, List.set_cons_succ, List.set_cons_zero]
          refine sV (.pointer (some ⟨B, o + k * 41 + 2, none⟩)) (y1) (by kernel_rfl) (by kernel_rfl) ?_
          simp only [Act.put, List.setIfInBounds_toArray, List.set_cons_succ, List.set_cons_zero]
          refine sP (by kernel_rfl) _ _ (by rfl) ⟨B, o + k * 41 + 2, none⟩ (by kernel_rfl) (.slice va vn vc) hcx (by kernel_rfl) ?_
          simp only [Act.put, List.setIfInBounds_toArray, List.set_cons_succ, List.set_cons_zero]
          refine sCx (by kernel_rfl) (by kernel_rfl) HQ1.out ?_
          rintro e u1 ⟨g, cL, rfl, hl, hg, hb⟩
          refine ⟨_, rfl, ?_⟩
          simp only [Act.put, List.setIfInBounds_toArray, List.set_cons_succ, List.set_cons_zero]
          have H2 := WirS.hide (H1.out.new (o := lentT g vn cL x.zs) hb hl (fun k hk => by subst hk; exact hg)).swap
          clear hl hg hb H1 HQ1 hcx
          have hf2 := H2.out.head.frozen 2
          have hc2 : u1.cell? ⟨A, 2, none⟩ = some (.slice va vn vc) := by rw [H2.out.head.cell, ← hv]; rfl
          go_upto_region 12 with fail
          have H3' : Hid (Bag w (u1.setCell ⟨A, 2, none⟩ (.slice (some ⟨g, 0, none⟩) vn cL)) (box TT A (tl x.t g vn cL).cells :: [lentT g vn cL x.zs, wtr W lim v zs err, rwt X lim v' zs err])) := WirS.hide (bag_set H2.out 2 _)
          clear H2 hf2 hc2
          generalize World.setCell u1 _ _ = y2 at *
          have H3 : Hid (Bag w y2.drew (wtr W lim v zs err :: rwt X lim v' zs err :: [lentT g vn cL x.zs, box TT A (tl x.t g vn cL).cells])) := WirS.hide ((H3'.out.perm (perm4b _ _ _ _)).more (below_drewN (Below.refl _ _) 1))
          clear H3'
          have HZ := WirS.hide (sZ_rng (lim := lim) (err := err) HRZ.out HX.out.1.rz HX.out.2.1 HX.out.2.2 (by have := HX.out.1.len; have := HS3.out; omega) HX.out.1.n1)
          have HC1 := WirS.hide (fun (U : World) (hU : Bag w U (wtr W lim v zs err :: rwt X lim v' zs err :: [lentT g vn cL x.zs, box TT A (tl x.t g vn cL).cells])) => puts_all w U _ W lim v zs err (tl x.t g vn cL) (some ⟨g, 0, none⟩) vn cL x.zs hU (wf_lent (HWF.out) (hU.all (lentT g vn cL x.zs) (by simp)).1) (fun _ k hk hX => (List.pairwise_cons.1 hU.apart).1 (lentT g vn cL x.zs) (by simp) k hX (by cases hk; rfl)) (by have := HWF.out.len; have := HVN.out; omega))
          have HC2 := WirS.hide (fun (U : World) (v1 : Value) (hU : Bag w U (rwt X lim v' zs err :: wtr W lim v1 (sZ lim err zs (tl x.t g vn cL) x.zs) (sE lim err zs (tl x.t g vn cL) x.zs) :: [lentT g vn cL x.zs, box TT A (tl x.t g vn cL).cells])) => ours_all w U _ X lim v' zs err x.t va vn vc x.zs hU (HWF.out.more hU.low (Below.refl _ _)) (by have := HWF.out.len; have := HVN.out; omega))
          simp only [show tE lim err zs (tl x.t g vn cL) x.zs = tE lim err zs x.t x.zs from rfl, show sE lim err zs (tl x.t g vn cL) x.zs = sE lim err zs x.t x.zs from rfl, show sZ lim err zs (tl x.t g vn cL) x.zs = sZ lim err zs x.t x.zs from rfl] at HC1 HC2
          obtain ⟨E, hE⟩ : ∃ E, tE lim err zs x.t x.zs = E := ⟨_, rfl⟩
          obtain ⟨E', hE'⟩ : ∃ E, sE lim err zs x.t x.zs = E := ⟨_, rfl⟩
          obtain ⟨Z, hZ⟩ : ∃ Z, sZ lim err zs x.t x.zs = Z := ⟨_, rfl⟩
          rw [hE, hE', hZ] at HC1 HC2
          rw [hZ] at HZ
          clear hE hE' hZ
          have hEE : (E != E) = false := by simp
          have hEE' : (E' != E') = false := by simp
          have HKP := WirS.hide (fun (U : World) (v1 v2 : Value) (hU : Bag w U (lentT g vn cL x.zs :: box TT A (tl x.t g vn cL).cells :: [rwt X lim v2 Z E', wtr W lim v1 Z E'])) => (kept_any U g vn cL x.zs va vc hU.head (HWF.out.bin.below hU.low) (by have := HVN.out; omega)).mono fun e w' ⟨h1, h2⟩ => (⟨h1, hU.more h2⟩ : _ ∧ Bag w w' _))
          have hS0 := held (A := A) (t' := tl x.t g vn cL) H3.out (by simp) hBl HR.out rfl hv (sl' := .slice (some ⟨g, 0, none⟩) vn cL)
          clear HLB
          refine wp_region_noPanic ?_
          refine wp_region_held_drew (S := fun w' => w'.rangeAt A 0 (tl x.t g vn cL).cells ∧ w'.cell? ⟨A, 2, none⟩ = some (.slice (some ⟨g, 0, none⟩) vn cL) ∧ w'.rangeAt B (o + k * 41) x.t.cells ∧ w'.cell? ⟨B, o + k * 41 + 2, none⟩ = some (.slice va vn vc)) (by kernel_rfl) hS0 (fun hHeld => ?_)
          generalize World.drew y2 = y3 at *
          refine' wpAnyH_take (i := 0) (oi := _) (v := _) rfl (by kernel_rfl) (by kernel_rfl) (by kernel_rfl) (fun _ _ _ h => h) (Or.inl ⟨by kernel_rfl, ?hy0⟩) (by assumption) ?rest0
          case hy0 =>
            intro w hSw
            try dsimp only at hSw
            go_simp
            try with_reducible rfl
          case rest0 =>
          try simp only [List.getElem_toArray, List.getElem_cons_zero, Act.put, List.setIfInBounds_toArray, List.set_cons_zero, List.set_cons_succ]
          refine' wpAnyH_take (i := 1) (oi := _) (v := .agg ((tl x.t g vn cL).cells).toArray) rfl (by kernel_rfl) (by kernel_rfl) (by kernel_rfl) (fun _ _ _ h => h) (yieldsIf_load_mid (by kernel_rfl) 39 (.tmp 10) (by kernel_rfl) A 0 (by kernel_rfl) ((tl x.t g vn cL).cells) _ (fun _ h => h.1) Try.underlying39 (by kernel_rfl) (by rw [Td.len]; kernel_rfl)) (by assumption) ?rest1
          case rest1 =>
          try simp only [List.getElem_toArray, List.getElem_cons_succ, List.getElem_cons_zero, Act.put, List.setIfInBounds_toArray, List.set_cons_zero, List.set_cons_succ]
          refine' wpAnyH_take (i := 3) (oi := _) (v := _) rfl (by kernel_rfl) (by kernel_rfl) (by kernel_rfl) (fun _ _ _ h => h) (Or.inl ⟨by kernel_rfl, ?hy3⟩) (by assumption) ?rest3
          case hy3 =>
            intro w hSw
            try dsimp only at hSw
            go_simp
            try with_reducible rfl
          case rest3 =>
          try simp only [List.getElem_toArray, List.getElem_cons_succ, List.getElem_cons_zero, Act.put, List.setIfInBounds_toArray, List.set_cons_zero, List.set_cons_succ]
          refine' wpAnyH_take (i := 4) (oi := _) (v := _) rfl (by kernel_rfl) (by kernel_rfl) (by kernel_rfl) (fun _ _ _ h => h) (Or.inl ⟨by kernel_rfl, ?hy4⟩) (by assumption) ?rest4
          case hy4 =>
            intro w hSw
            try dsimp only at hSw
            go_simp
            try with_reducible rfl
          case rest4 =>
          try simp only [List.getElem_toArray, List.getElem_cons_succ, List.getElem_cons_zero, Act.put, List.setIfInBounds_toArray, List.set_cons_zero, List.set_cons_succ]
          refine' wpAnyH_take (i := 5) (oi := _) (v := _) rfl (by kernel_rfl) (by kernel_rfl) (by kernel_rfl) (fun _ _ _ h => h) (Or.inl ⟨by kernel_rfl, ?hy5⟩) (by assumption) ?rest5
          case hy5 =>
            intro w hSw
            try dsimp only at hSw
            go_simp
            try with_reducible rfl
          case rest5 =>
          try simp only [List.getElem_toArray, List.getElem_cons_succ, List.getElem_cons_zero, Act.put, List.setIfInBounds_toArray, List.set_cons_zero, List.set_cons_succ]
          refine' wpAnyH_take (i := 6) (oi := _) (v := .pointer (some ⟨B, o + k * 41, none⟩)) rfl (by kernel_rfl) (by kernel_rfl) (by kernel_rfl) (fun _ _ _ h => h) (Or.inl ⟨by kernel_rfl, ?hy6⟩) (by assumption) ?rest6
          case hy6 =>
            intro W _
            exact (fun W => opX _ _ _ _ B o ln lc k rfl (by kernel_rfl) (by kernel_rfl) hlt W) W
          case rest6 =>
          try simp only [List.getElem_toArray, List.getElem_cons_succ, List.getElem_cons_zero, Act.put, List.setIfInBounds_toArray, List.set_cons_zero, List.set_cons_succ]
          refine' wpAnyH_take (i := 7) (oi := _) (v := .agg (x.t.cells).toArray) rfl (by kernel_rfl) (by kernel_rfl) (by kernel_rfl) (fun _ _ _ h => h) (yieldsIf_load_mid (by kernel_rfl) 39 (.tmp 65) (by kernel_rfl) B (o + k * 41) (by kernel_rfl) (x.t.cells) _ (fun _ h => h.2.2.1) Try.underlying39 (by kernel_rfl) (by rw [Td.len]; kernel_rfl)) (by assumption) ?rest7
          case rest7 =>
          try simp only [List.getElem_toArray, List.getElem_cons_succ, List.getElem_cons_zero, Act.put, List.setIfInBounds_toArray, List.set_cons_zero, List.set_cons_succ]
          refine wpAnyH_ready (rs := [2]) (by kernel_rfl) (by simp) ?_
          refine AllReadyH.cons rfl (fun K hK => ?_) AllReadyH.nil
          rw [if_pos (by kernel_rfl)]
          refine stepCallH (v := .int .i64 E) (R := PutP w (rwt X lim v' zs err :: [lentT g vn cL x.zs, box TT A (tl x.t g vn cL).cells]) W lim Z E') (by kernel_rfl) (HC1.out y3 H3.out) ?_
          rintro y4 ⟨v1, hb⟩
          try simp only [List.getElem_toArray, List.getElem_cons_succ, List.getElem_cons_zero, Act.put, List.setIfInBounds_toArray, List.set_cons_zero, List.set_cons_succ]
          have H4 := WirS.hide hb.swap
          clear hb H3
          refine hK.out _ _ (held (A := A) (t' := tl x.t g vn cL) H4.out (by simp) hBl HR.out rfl hv) (fun hHeld => ?_)
          clear hK K
          refine wpAnyH_ready (rs := [8]) (by kernel_rfl) (by simp) ?_
          refine AllReadyH.cons rfl (fun K hK => ?_) AllReadyH.nil
          rw [if_pos (by kernel_rfl)]
          refine stepCallH (v := .int .i64 E) (R := PutR w (wtr W lim v1 Z E' :: [lentT g vn cL x.zs, box TT A (tl x.t g vn cL).cells]) X lim Z E') (by kernel_rfl) (HC2.out y4 v1 H4.out) ?_
          rintro y5 ⟨v2, hb⟩
          try simp only [List.getElem_toArray, List.getElem_cons_succ, List.getElem_cons_zero, Act.put, List.setIfInBounds_toArray, List.set_cons_zero, List.set_cons_succ]
          have H5 := WirS.hide (hb.perm (perm4 _ _ _ _))
          clear hb H4
          refine hK.out _ _ (held (A := A) (t' := tl x.t g vn cL) H5.out (by simp) hBl HR.out rfl hv) (fun hHeld => ?_)
          clear hK K
          refine' wpAnyH_take (i := 9) (oi := _) (v := _) rfl (by kernel_rfl) (by kernel_rfl) (by kernel_rfl) (fun _ _ _ h => h) (Or.inl ⟨by kernel_rfl, ?hy9⟩) (by assumption) ?rest9
          case hy9 =>
            intro w hSw
            try dsimp only at hSw
            go_simp
            try with_reducible rfl
          case rest9 =>
          try simp only [List.getElem_toArray, List.getElem_cons_succ, List.getElem_cons_zero, Act.put, List.setIfInBounds_toArray, List.set_cons_zero, List.set_cons_succ]
          refine' wpAnyH_take (i := 10) (oi := _) (v := _) rfl (by kernel_rfl) (by kernel_rfl) (by kernel_rfl) (fun _ _ _ h => h) (Or.inl ⟨by kernel_rfl, ?hy10⟩) (by assumption) ?rest10
          case hy10 =>
            intro w hSw
            try dsimp only at hSw
            go_simp
            try with_reducible rfl
          case rest10 =>
          try simp only [List.getElem_toArray, List.getElem_cons_succ, List.getElem_cons_zero, Act.put, List.setIfInBounds_toArray, List.set_cons_zero, List.set_cons_succ]
          refine' wpAnyH_take (i := 11) (oi := _) (v := _) rfl (by kernel_rfl) (by kernel_rfl) (by kernel_rfl) (fun _ _ _ h => h) (Or.inl ⟨by kernel_rfl, ?hy11⟩) (by assumption) ?rest11
          case hy11 =>
            intro w hSw
            try dsimp only at hSw
            go_simp
            try with_reducible rfl
          case rest11 =>
          try simp only [List.getElem_toArray, List.getElem_cons_succ, List.getElem_cons_zero, Act.put, List.setIfInBounds_toArray, List.set_cons_zero, List.set_cons_succ]
          refine' wpAnyH_take (i := 12) (oi := _) (v := _) rfl (by kernel_rfl) (by kernel_rfl) (by kernel_rfl) (fun _ _ _ h => h) (Or.inl ⟨by kernel_rfl, ?hy12⟩) (by assumption) ?rest12
          case hy12 =>
            intro w hSw
            try dsimp only at hSw
            go_simp
            try with_reducible rfl
          case rest12 =>
          try simp only [List.getElem_toArray, List.getElem_cons_succ, List.getElem_cons_zero, Act.put, List.setIfInBounds_toArray, List.set_cons_zero, List.set_cons_succ]
          refine' wpAnyH_take (i := 13) (oi := _) (v := _) rfl (by kernel_rfl) (by kernel_rfl) (by kernel_rfl) (fun _ _ _ h => h) (Or.inl ⟨by kernel_rfl, ?hy13⟩) (by assumption) ?rest13
          case hy13 =>
            intro w hSw
            try dsimp only at hSw
            go_simp
            try with_reducible rfl
          case rest13 =>
          try simp only [List.getElem_toArray, List.getElem_cons_succ, List.getElem_cons_zero, Act.put, List.setIfInBounds_toArray, List.set_cons_zero, List.set_cons_succ]
          refine' wpAnyH_take (i := 14) (oi := _) (v := _) rfl (by kernel_rfl) (by kernel_rfl) (by kernel_rfl) (fun _ _ _ h => h) (Or.inl ⟨by kernel_rfl, ?hy14⟩) (by assumption) ?rest14
          case hy14 =>
            intro w hSw
            try dsimp only at hSw
            go_simp
            try with_reducible rfl
          case rest14 =>
          try simp only [List.getElem_toArray, List.getElem_cons_succ, List.getElem_cons_zero, Act.put, List.setIfInBounds_toArray, List.set_cons_zero, List.set_cons_succ]
          refine' wpAnyH_take (i := 15) (oi := _) (v := .pointer (some ⟨B, o + k * 41, none⟩)) rfl (by kernel_rfl) (by kernel_rfl) (by kernel_rfl) (fun _ _ _ h => h) (Or.inl ⟨by kernel_rfl, ?hy15⟩) (by assumption) ?rest15
          case hy15 =>
            intro W _
            exact (fun W => opX _ _ _ _ B o ln lc k rfl (by kernel_rfl) (by kernel_rfl) hlt W) W
          case rest15 =>
          try simp only [List.getElem_toArray, List.getElem_cons_succ, List.getElem_cons_zero, Act.put, List.setIfInBounds_toArray, List.set_cons_zero, List.set_cons_succ]
          refine' wpAnyH_take (i := 16) (oi := _) (v := .pointer (some ⟨B, o + k * 41 + 2, none⟩)) rfl (by kernel_rfl) (by kernel_rfl) (by kernel_rfl) (fun _ _ _ h => h) (Or.inl ⟨by kernel_rfl, ?hy16⟩) (by assumption) ?rest16
          case hy16 =>
            intro W _
            kernel_rfl
          case rest16 =>
          try simp only [List.getElem_toArray, List.getElem_cons_succ, List.getElem_cons_zero, Act.put, List.setIfInBounds_toArray, List.set_cons_zero, List.set_cons_succ]
          refine' wpAnyH_take (i := 17) (oi := _) (v := _) rfl (by kernel_rfl) (by kernel_rfl) (by kernel_rfl) (fun _ _ _ h => h) (Or.inl ⟨by kernel_rfl, ?hy17⟩) (by assumption) ?rest17
          case hy17 =>
            intro w hSw
            try dsimp only at hSw
            go_simp
            try with_reducible rfl
          case rest17 =>
          try simp only [List.getElem_toArray, List.getElem_cons_succ, List.getElem_cons_zero, Act.put, List.setIfInBounds_toArray, List.set_cons_zero, List.set_cons_succ]
          refine wpAnyH_ready (rs := [18]) (by kernel_rfl) (by simp) ?_
          refine AllReadyH.cons rfl (fun K hK => ?_) AllReadyH.nil
          rw [if_pos (by kernel_rfl)]
          refine stepCallH (v := .bool true) (R := fun w' => Bag w w' [lentT g vn cL x.zs, box TT A (tl x.t g vn cL).cells, rwt X lim v2 Z E', wtr W lim v1 Z E']) (by kernel_rfl) (HKP.out y5 v1 v2 H5.out) ?_
          rintro y6 hb
          try simp only [List.getElem_toArray, List.getElem_cons_succ, List.getElem_cons_zero, Act.put, List.setIfInBounds_toArray, List.set_cons_zero, List.set_cons_succ]
          have H6 := WirS.hide hb
          clear hb H5
          refine hK.out _ _ (held (A := A) (t' := tl x.t g vn cL) H6.out (by simp) hBl HR.out rfl hv) (fun hHeld => ?_)
          clear hK K
          refine' wpAnyH_take (i := 19) (oi := _) (v := _) rfl (by kernel_rfl) (by kernel_rfl) (by kernel_rfl) (fun _ _ _ h => h) (Or.inl ⟨by kernel_rfl, ?hy19⟩) (by assumption) ?rest19
          case hy19 =>
            intro w hSw
            try dsimp only at hSw
            go_simp
            try with_reducible rfl
          case rest19 =>
          try simp only [List.getElem_toArray, List.getElem_cons_succ, List.getElem_cons_zero, Act.put, List.setIfInBounds_toArray, List.set_cons_zero, List.set_cons_succ]
          refine' wpAnyH_take (i := 20) (oi := _) (v := _) rfl (by kernel_rfl) (by kernel_rfl) (by kernel_rfl) (fun _ _ _ h => h) (Or.inl ⟨by kernel_rfl, ?hy20⟩) (by assumption) ?rest20
          case hy20 =>
            intro w hSw
            try dsimp only at hSw
            go_simp
            try with_reducible rfl
          case rest20 =>
          try simp only [List.getElem_toArray, List.getElem_cons_succ, List.getElem_cons_zero, Act.put, List.setIfInBounds_toArray, List.set_cons_zero, List.set_cons_succ]
          refine wpAnyH_done (by kernel_rfl) ?_ _
          refine NoPanic.normal ?_
          have ha6 : At y6 A TT (tl x.t g vn cL).cells := (H6.out.all (box TT A (tl x.t g vn cL).cells) (by simp)).1
          have hca : y6.cell? ⟨A, 2, none⟩ = some (.slice (some ⟨g, 0, none⟩) vn cL) := by rw [ha6.cell]; rfl
          clear ha6 HC1 HC2 HKP hS0 hHeld
          go_upto_region 15 with (go_at_call 24; refine (KitB.over_any _ (some ⟨g, 0, none⟩) vn cL x.zs H6.out.head.ownHead (by have := HVN.out; omega)).mono ?_; rintro e u5 ⟨rfl, ⟨ys, _, ho⟩, hf⟩; have H7 := WirS.hide (H6.out.act (o' := own (.slice (some ⟨g, 0, none⟩) vn cL) ys) (hf.mono fun k _ hx => by cases hx; rfl) ho (fun k hk => by cases hk; exact .inl rfl)).drop.drop; clear ho hf H6)
          clear hca
          go_upto_region 16 with (go_at_call 25; refine (p_done H7.out.swap).mono ?_; rintro e u6 ⟨da, dl, dc, rfl, hb⟩; have H8 := WirS.hide (WirAB.turn3 hb); clear hb H7)
          go_upto_region 17 with (go_at_call 26; refine (r_done H8.out).mono ?_; rintro e u7 ⟨ba, bl, bc, rfl, hb⟩; have H9 := WirS.hide (hb.perm (List.perm_append_comm (l₁ := [_, _, _]) (l₂ := [_]))); clear hb H8)
          have HSB := WirS.hide (k_sb u7 da ba dl dc bl bc (dn E' Z) (WirM.Own.bin H9.out.head) (WirM.Own.bin H9.out.drop.head) (dn_rng HZ.out))
          have hdl : dl ≤ 1099511627776 := by
            have e1 : dl = (dn E' Z).length := WrwC.bin_len (WirM.Own.bin H9.out.head)
            have e2 := dn_len E' Z
            have e3 : WSt u7 W lim v1 Z E' := (H9.out.all (wtr W lim v1 Z E') (by simp)).1
            have := e3.fits
            omega
          go_upto_region 19 with (go_at_call 27; refine (HSB.out).mono ?_; rintro e _ ⟨rfl, rfl⟩)
          clear HSB
          go_wp2_with (go_at_call 24; refine (KitB.over_any _ da dl dc (dn E' Z) H9.out.head hdl).mono ?_; rintro e u8 ⟨rfl, ⟨ys, _, ho⟩, hf⟩; have H10 := WirS.hide (H9.out.act (o' := own (.slice da dl dc) ys) (hf.mono fun k _ hx => hx) ho (fun k hk => .inl hk)).drop.drop.swap; clear ho hf H9)
          go_roundw
          case rel => exact ⟨k + 1, v1, v2, Z, E', by omega, by go_num, HZ.out, H10.out⟩
          case measure => simp [intOf]; omega
        · obtain rfl : k = ln := by omega
          have HB := HBg
          clear HBg
          go_wp2_with (go_at_call 17; refine (WirV.awake_any _).mono ?_; rintro e u ⟨rfl, hb⟩; have HF := WirS.hide (Bag.low (HB.out.more hb)); clear hb HB)
          go_ret
          exact ⟨rfl, HF.out⟩
end WrwE
end Go.Proofs.Ythhnojnpjbklpaa

