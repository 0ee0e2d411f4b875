/-
  WrwA, WrwB, WrwC, in one text.
-/
import Derived.Test.YthcemghamdmjmaaPkM
import Derived.Test.YthcemghamdmjmaaWirBH
import Derived.Test.YthcemghamdmjmaaPkL
import Derived.Deep.AppendSrc
import Derived.Test.YthcemghamdmjmaaPkH
namespace Go.Proofs.Ythcemghamdmjmaa
namespace WrwA
open Go.RowKit
open BlkM WirM WirS WirA
open WirB (len_of)
open WirD (nb numB nb_le)
open WirE (NewB tb)
open WirF (boolB wordB)
open WirRT (dg dg_len wordB_dg)
open WirBC (numB_dg nb_up dg_head)

/-- Bytes of a call's own, made behind a world. -/
def NO (w U : World) (v : Value) (zs : List Int) : Prop := WirM.Own U 5 v zs ∧ NewB w v ∧ Below w.heap.size w U
theorem NO.more {w U U' : World} {v : Value} {zs : List Int} (h : NO w U v zs) (hb : Below U.heap.size U U') : NO w U' v zs :=
  ⟨h.1.fr (X := fun _ => False) (Fr.of_below hb) (fun _ _ h => h), h.2.1, h.2.2.trans (hb.mono h.2.2.size)⟩
theorem no_nil (w U : World) (hb : Below w.heap.size w U) : NO w U (.slice none 0 0) [] := ⟨WirM.Own.nil U _, fun k hk => by simp [Value.ownBlock] at hk, hb⟩
theorem no_zero (w U : World) (hb : Below w.heap.size w U) : NO w (U.alloc (.cells #[] 5)) (.slice (some ⟨U.heap.size, 0, none⟩) 0 0) [] :=
  ⟨World.ownsRow_made U #[] 0 (Nat.zero_le _) (Nat.zero_le _) (by simp), fun k hk => by cases hk; exact hb.size, Below.alloc hb hb.size _⟩
theorem no_one (w U : World) (x : Int) (hb : Below w.heap.size w U) : NO w (U.alloc (.cells #[.int .u8 x] 5)) (.slice (some ⟨U.heap.size, 0, none⟩) 1 1) [x] :=
  ⟨⟨rfl, .inr ⟨U.heap.size, 1, #[.int .u8 x], rfl, Nat.zero_le _, heap_alloc_new U _, Nat.le_refl _, by decide, rfl, rfl⟩⟩, fun k hk => by cases hk; exact hb.size, Below.alloc hb hb.size _⟩
/-- What a call that makes bytes answers. -/
def Mk (w : World) (zs : List Int) (e : Ending) (w' : World) : Prop := ∃ a m c, m = zs.length ∧ e = .returned (.slice a m c) ∧ NO w w' (.slice a m c) zs
/-- append, onto bytes of the call's own. -/
theorem cat {w U : World} {d s : Value} {ys zs : List Int} (h : NO w U d ys) (hs : BIn U s zs) (hl : ys.length + zs.length ≤ 1099511627776) :
    ∃ a m c U', m = (ys ++ zs).length ∧ (Builtin.append_ #[32, 32] 32 #[d, s]).run Try.prog U = .ok (.slice a m c) U' ∧ NO w U' (.slice a m c) (ys ++ zs) ∧ Fr (fun k => d.ownBlock = some k) U U' := by
  obtain ⟨i0, hi, hz0, hz1, hz2⟩ := info_parts (show (Try.prog.info? 5).map (fun i => (i.zero, i.size, i.bytes)) = some (some (.int .u8 0), 1, 1) by kernel_rfl)
  obtain ⟨v1, u1, r1, o1, f1, n1⟩ := app_any (P := Try.prog) U 32 32 32 5 i0 _ Try.underlying32 hi hz0 hz1 hz2 rfl d s ys zs h.1 (hs.src Try.underlying32) hl
  obtain ⟨a, c, rfl⟩ := len_of o1
  refine ⟨a, _, c, u1, rfl, r1, ⟨o1, fun k hk => ?_, h.2.2.trans (f1.below h.2.2.size fun k hk hx => ?_)⟩, f1⟩
  · rcases n1 k hk with hx | hx
    · exact h.2.1 k hx
    · exact Nat.le_trans h.2.2.size hx
  · have := h.2.1 k hx
    omega
theorem wrap8 (n : Int) : IntKind.u8.wrap n = n % 256 := by simp [IntKind.wrap, IntKind.bits, IntKind.signed]
theorem shr8 (n : Int) (k : Nat) : n / 2 ^ (8 * k) / 256 = n / 2 ^ (8 * (k + 1)) := by
  rw [show (2 : Int) ^ (8 * (k + 1)) = 2 ^ (8 * k) * 256 by rw [show 8 * (k + 1) = 8 * k + 8 by omega, Int.pow_add]; rfl, ← Int.ediv_ediv_of_nonneg (Int.pow_nonneg (by decide))]
theorem nb_of (n : Int) (k : Nat) (h0 : 0 ≤ n) (h1 : n < 18446744073709551616) (hk : n / 2 ^ (8 * k) = 0) (hp : k = 0 ∨ 0 < n / 2 ^ (8 * (k - 1))) : nb n = k := by
  have hup := nb_up n h0 h1
  have p256 : ∀ j : Nat, (256 : Int) ^ j = 2 ^ (8 * j) := fun j => by rw [show (256 : Int) = 2 ^ 8 from rfl, ← Int.pow_mul]
  have hlt : ∀ j : Nat, n / 2 ^ (8 * j) = 0 → n < 2 ^ (8 * j) := fun j h => by
    have hpos : (0 : Int) < 2 ^ (8 * j) := Int.pow_pos (by decide)
    have := Int.lt_mul_ediv_self_add (x := n) hpos
    rw [h] at this
    simpa using this
  have hpow : ∀ i j : Nat, i ≤ j → (2 : Int) ^ (8 * i) ≤ 2 ^ (8 * j) := fun i j h => by
    have := Nat.pow_le_pow_right (n := 2) (by decide) (show 8 * i ≤ 8 * j by omega)
    exact_mod_cast this
  rw [p256] at hup
  have hnl := hlt k hk
  rcases Nat.lt_trichotomy (nb n) k with h | h | h
  · rcases hp with rfl | hp
    · omega
    · have := hpow (nb n) (k - 1) (by omega)
      have hz : n / 2 ^ (8 * (k - 1)) = 0 := Int.ediv_eq_zero_of_lt h0 (by omega)
      omega
  · exact h
  · obtain ⟨j, hj⟩ : ∃ j, nb n = j + 1 := ⟨nb n - 1, by omega⟩
    have hne : dg n (nb n) ≠ [] := by rw [hj, dg]; simp
    have hd := dg_head n h0 h1 hne
    rw [hj, dg, List.getD_cons_zero] at hd
    have := hpow k j (by omega)
    have hz : n / 2 ^ (8 * j) = 0 := Int.ediv_eq_zero_of_lt h0 (by omega)
    rw [hz] at hd
    exact absurd rfl hd
def MidN (w : World) (n : Int) (x b : Value) (U : World) : Prop :=
  ∃ (k : Nat) (a : Option Addr) (c : Nat), k ≤ 8 ∧ x = .int .i64 (n / 2 ^ (8 * k)) ∧ b = .slice a k c ∧ (k = 0 ∨ 0 < n / 2 ^ (8 * (k - 1))) ∧ NO w U (.slice a k c) (dg n k)
set_option maxHeartbeats 1600000 in
theorem number_any (w : World) (n : Int) (h0 : 0 ≤ n) (h1 : n < 9223372036854775808) : Calls Try.prog 193 #[.int .i64 n] w (Mk w (numB n)) := by
  go_enter Try.func193, Try.ntmps193
  go_wp2_with fail
  go_loopw [0, 3] (fun x b wr => MidN w n x b wr) (fun x _ _ => (intOf x).toNat)
  case atStart => exact ⟨0, none, 0, by omega, by simp, rfl, .inl rfl, no_nil w w (Below.refl _ _)⟩
  case round =>
    obtain ⟨k, a, c, hk, rfl, rfl, hp, hno⟩ := hrel
    have hq0 : 0 ≤ n / 2 ^ (8 * k) := Int.ediv_nonneg h0 (Int.pow_nonneg (by decide))
    have hqn : n / 2 ^ (8 * k) ≤ n := Int.ediv_le_self _ h0
    have hsh := shr8 n k
    have hdg : [n / 2 ^ (8 * k) % 256] ++ dg n k = dg n (k + 1) := rfl
    have hend : n / 2 ^ (8 * k) = 0 → nb n = k := fun h => nb_of n k h0 (by omega) h hp
    have hk7 : 0 < n / 2 ^ (8 * k) → k ≤ 7 := fun h => by
      rcases Nat.lt_or_ge k 8 with h8 | h8
      · omega
      · obtain rfl : k = 8 := by omega
        rw [show (2 : Int) ^ (8 * 8) = 18446744073709551616 by decide, Int.ediv_eq_zero_of_lt h0 (by omega)] at h
        omega
    rw [← wrap8] at hdg
    obtain ⟨q, hq⟩ : ∃ q, n / 2 ^ (8 * k) = q := ⟨_, rfl⟩
    rw [hq] at hq0 hqn hsh hdg hend hk7 ⊢
    have HN := WirS.hide hno
    by_cases hx : 0 < q
    · have hg : decide (0 < q) = true := decide_eq_true hx
      have hk8 := hk7 hx
      obtain ⟨a1, m1, c1, U1, hm1, r1, no1, _⟩ := cat (no_one w wr (IntKind.u8.wrap q) hno.2.2) (hno.1.bin.below (Below.alloc (Below.refl _ _) (Nat.le_refl _) _)) (by rw [dg_len]; simp; omega)
      rw [hdg] at hm1 no1
      rw [dg_len] at hm1
      subst hm1
      clear hno hend
      go_upto_region 3 with fail
      refine wp_region_lit ?_
      refine sV (.int .i64 q) (wr) (by kernel_rfl) (by kernel_rfl) ?_
      simp only [Act.put, List.setIfInBounds_toArray, List.set_cons_succ, List.set_cons_zero]
      refine sV (.int .u8 (IntKind.u8.wrap q)) (wr) (by kernel_rfl) (by kernel_rfl) ?_
      simp only [Act.put, List.setIfInBounds_toArray, List.set_cons_succ, List.set_cons_zero]
      refine sV (.slice (some ⟨wr.heap.size, 0, none⟩) 1 1) (wr.alloc (.cells #[.int .u8 (IntKind.u8.wrap q)] 5)) (by kernel_rfl) (by kernel_rfl) ?_
      simp only [Act.put, List.setIfInBounds_toArray, List.set_cons_succ, List.set_cons_zero]
      refine sV (.slice a k c) (wr.alloc (.cells #[.int .u8 (IntKind.u8.wrap q)] 5)) (by kernel_rfl) (by kernel_rfl) ?_
      simp only [Act.put, List.setIfInBounds_toArray, List.set_cons_succ, List.set_cons_zero]
      refine sA (by kernel_rfl) 32 32 _ _ (by rfl) (.slice (some ⟨wr.heap.size, 0, none⟩) 1 1) (.slice a k c) (by kernel_rfl) (by kernel_rfl) (.slice a1 (k + 1) c1) (U1) r1 ?_
      simp only [Act.put, List.setIfInBounds_toArray, List.set_cons_succ, List.set_cons_zero]
      go_wp2_with fail
      go_roundw
      case rel => exact ⟨k + 1, a1, c1, by omega, by rw [← hsh], rfl, .inr (by rw [Nat.add_sub_cancel, hq]; exact hx), no1⟩
      case measure => simp [intOf]; omega
    · obtain rfl : q = 0 := by omega
      have hnb := hend rfl
      obtain ⟨a1, m1, c1, U1, hm1, r1, no1, _⟩ := cat (no_one w wr (IntKind.u8.wrap k) hno.2.2) (hno.1.bin.below (Below.alloc (Below.refl _ _) (Nat.le_refl _) _)) (by rw [dg_len, List.length_singleton]; omega)
      have hnB : [IntKind.u8.wrap (k : Int)] ++ dg n k = numB n := by rw [numB_dg n (by omega), hnb, wrap8, Int.emod_eq_of_lt (by omega) (by omega), List.singleton_append]
      rw [hnB] at hm1 no1
      clear hno hdg hnB
      go_upto_region 5 with fail
      refine wp_region_lit ?_
      refine sV (.slice a k c) (wr) (by kernel_rfl) (by kernel_rfl) ?_
      simp only [Act.put, List.setIfInBounds_toArray, List.set_cons_succ, List.set_cons_zero]
      refine sV (.int .i64 k) (wr) (by kernel_rfl) (by kernel_rfl) ?_
      simp only [Act.put, List.setIfInBounds_toArray, List.set_cons_succ, List.set_cons_zero]
      refine sV (.int .u8 (IntKind.u8.wrap k)) (wr) (by kernel_rfl) (by kernel_rfl) ?_
      simp only [Act.put, List.setIfInBounds_toArray, List.set_cons_succ, List.set_cons_zero]
      refine sV (.slice (some ⟨wr.heap.size, 0, none⟩) 1 1) (wr.alloc (.cells #[.int .u8 (IntKind.u8.wrap k)] 5)) (by kernel_rfl) (by kernel_rfl) ?_
      simp only [Act.put, List.setIfInBounds_toArray, List.set_cons_succ, List.set_cons_zero]
      refine sV (.slice a k c) (wr.alloc (.cells #[.int .u8 (IntKind.u8.wrap k)] 5)) (by kernel_rfl) (by kernel_rfl) ?_
      simp only [Act.put, List.setIfInBounds_toArray, List.set_cons_succ, List.set_cons_zero]
      refine sA (by kernel_rfl) 32 32 _ _ (by rfl) (.slice (some ⟨wr.heap.size, 0, none⟩) 1 1) (.slice a k c) (by kernel_rfl) (by kernel_rfl) (.slice a1 m1 c1) (U1) r1 ?_
      simp only [Act.put, List.setIfInBounds_toArray, List.set_cons_succ, List.set_cons_zero]
      go_wp2_with fail
      go_ret
      exact ⟨a1, _, c1, rfl, rfl, by rw [← hm1]; exact no1⟩
def MidW (w : World) (n : Int) (x b i : Value) (U : World) : Prop :=
  ∃ (k : Nat) (a : Option Addr) (c : Nat), k ≤ 8 ∧ x = .int .u64 (n / 2 ^ (8 * k)) ∧ b = .slice a k c ∧ i = .int .i64 (k : Int) ∧ NO w U (.slice a k c) (dg n k)
set_option maxHeartbeats 1600000 in
theorem word_any (w : World) (n : Int) (h0 : 0 ≤ n) : Calls Try.prog 195 #[.int .u64 n] w (Mk w (wordB n)) := by
  have hw := wordB_dg n
  generalize wordB n = Z at hw ⊢
  subst hw
  go_enter Try.func195, Try.ntmps195
  go_wp2_with fail
  go_loopw [0, 3, 4] (fun x b i wr => MidW w n x b i wr) (fun _ _ i _ => 8 - (intOf i).toNat)
  case atStart => exact ⟨0, none, 0, by omega, by simp, rfl, rfl, no_nil w w (Below.refl _ _)⟩
  case round =>
    obtain ⟨k, a, c, hk, rfl, rfl, rfl, hno⟩ := hrel
    have hq0 : 0 ≤ n / 2 ^ (8 * k) := Int.ediv_nonneg h0 (Int.pow_nonneg (by decide))
    have hqn : n / 2 ^ (8 * k) ≤ n := Int.ediv_le_self _ h0
    have hsh := shr8 n k
    have hdg : [n / 2 ^ (8 * k) % 256] ++ dg n k = dg n (k + 1) := rfl
    rw [← wrap8] at hdg
    obtain ⟨q, hq⟩ : ∃ q, n / 2 ^ (8 * k) = q := ⟨_, rfl⟩
    rw [hq] at hq0 hqn hsh hdg ⊢
    by_cases hx : k < 8
    · have hg : (k : Int) < 8 := by omega
      obtain ⟨a1, m1, c1, U1, hm1, r1, no1, _⟩ := cat (no_one w wr (IntKind.u8.wrap q) hno.2.2) (hno.1.bin.below (Below.alloc (Below.refl _ _) (Nat.le_refl _) _)) (by rw [dg_len, List.length_singleton]; omega)
      rw [hdg] at hm1 no1
      rw [dg_len] at hm1
      subst hm1
      clear hno
      go_upto_region 5 with fail
      refine wp_region_lit ?_
      refine sV (.int .u64 q) (wr) (by kernel_rfl) (by kernel_rfl) ?_
      simp only [Act.put, List.setIfInBounds_toArray, List.set_cons_succ, List.set_cons_zero]
      refine sV (.int .u8 (IntKind.u8.wrap q)) (wr) (by kernel_rfl) (by kernel_rfl) ?_
      simp only [Act.put, List.setIfInBounds_toArray, List.set_cons_succ, List.set_cons_zero]
      refine sV (.slice (some ⟨wr.heap.size, 0, none⟩) 1 1) (wr.alloc (.cells #[.int .u8 (IntKind.u8.wrap q)] 5)) (by kernel_rfl) (by kernel_rfl) ?_
      simp only [Act.put, List.setIfInBounds_toArray, List.set_cons_succ, List.set_cons_zero]
      refine sV (.slice a k c) (wr.alloc (.cells #[.int .u8 (IntKind.u8.wrap q)] 5)) (by kernel_rfl) (by kernel_rfl) ?_
      simp only [Act.put, List.setIfInBounds_toArray, List.set_cons_succ, List.set_cons_zero]
      refine sA (by kernel_rfl) 32 32 _ _ (by rfl) (.slice (some ⟨wr.heap.size, 0, none⟩) 1 1) (.slice a k c) (by kernel_rfl) (by kernel_rfl) (.slice a1 (k + 1) c1) (U1) r1 ?_
      simp only [Act.put, List.setIfInBounds_toArray, List.set_cons_succ, List.set_cons_zero]
      go_wp2_with fail
      go_roundw
      case rel => exact ⟨k + 1, a1, c1, by omega, by rw [← hsh], rfl, by go_num, no1⟩
      case measure => simp [intOf]; omega
    · obtain rfl : k = 8 := by omega
      clear hdg
      go_wp2_with fail
      go_ret
      exact ⟨a, 8, c, (dg_len n 8).symm, rfl, hno⟩
theorem bool_any (w : World) (b : Bool) : Calls Try.prog 196 #[.bool b] w (Mk w (boolB b)) := by
  have h1 := no_one w w 1 (Below.refl _ _)
  have h0 := no_one w w 0 (Below.refl _ _)
  cases b
  all_goals
    go_enter Try.func196, Try.ntmps196
    go_wp2_with fail
    go_ret
  · exact ⟨_, 1, 1, rfl, rfl, h0⟩
  · exact ⟨_, 1, 1, rfl, rfl, h1⟩
/-- Bytes, how many ahead of them. -/
theorem counted_any (w : World) (a : Option Addr) (n c : Nat) (zs : List Int) (h : BIn w (.slice a n c) zs) (hn : n ≤ 1099511627000) : Calls Try.prog 194 #[.slice a n c] w (Mk w (numB n ++ zs)) := by
  have hnl : n = zs.length := by obtain ⟨_, _, e, _⟩ := h; cases e; rfl
  have C := WirS.hide (number_any w n (by omega) (by omega))
  have hk : (numB (n : Int)).length ≤ 9 := by rw [numB_dg _ (by omega), List.length_cons, dg_len]; have := nb_le (n : Int) (by omega); omega
  have H := WirS.hide (fun (U : World) (d : Value) (hd : NO w U d (numB n)) => cat hd (h.below hd.2.2) (by omega))
  generalize numB n ++ zs = Z at H ⊢
  clear h hk hnl
  go_enter Try.func194, Try.ntmps194
  go_upto_region 1 with fail
  refine wp_region_lit ?_
  refine sV (.slice a n c) (w) (by kernel_rfl) (by kernel_rfl) ?_
  simp only [Act.put, List.setIfInBounds_toArray, List.set_cons_succ, List.set_cons_zero]
  refine sV (.int .i64 n) (w) (by kernel_rfl) (by kernel_rfl) ?_
  simp only [Act.put, List.setIfInBounds_toArray, List.set_cons_succ, List.set_cons_zero]
  refine WirAB.sCx (by kernel_rfl) (by kernel_rfl) C.out ?_
  rintro e U ⟨ad, m, cd, hm, rfl, hd⟩
  refine ⟨_, rfl, ?_⟩
  simp only [Act.put, List.setIfInBounds_toArray, List.set_cons_succ, List.set_cons_zero]
  obtain ⟨a1, m1, c1, U1, hm1, r1, no1, _⟩ := H.out U _ hd
  refine sV (.slice a n c) (U) (by kernel_rfl) (by kernel_rfl) ?_
  simp only [Act.put, List.setIfInBounds_toArray, List.set_cons_succ, List.set_cons_zero]
  refine sA (by kernel_rfl) 32 32 _ _ (by rfl) (.slice ad m cd) (.slice a n c) (by kernel_rfl) (by kernel_rfl) (.slice a1 m1 c1) (U1) r1 ?_
  simp only [Act.put, List.setIfInBounds_toArray, List.set_cons_succ, List.set_cons_zero]
  clear hm H C
  go_wp2_with fail
  go_ret
  exact ⟨a1, _, c1, hm1, rfl, no1⟩
end WrwA
end Go.Proofs.Ythcemghamdmjmaa

namespace Go.Proofs.Ythcemghamdmjmaa
namespace WrwB
open Go.RowKit
open BlkM WirM WirS WirA WrwA
open WirB (len_of)
open WirE (NewB)
open WirX (Thg Bag own)

/-- The document's writer in memory: its bytes are a call's own. -/
structure RW (w : World) (X : Nat) (lim : Int) (v : Value) (zs : List Int) (err : Int) : Prop where
  cell : At w X 147 [.int .i64 lim, v, .int .i64 err]
  own : WirM.Own w 5 v zs
  off : v.ownBlock ≠ some X
  low : 0 ≤ lim
  high : lim ≤ 1048576
  fits : (zs.length : Int) ≤ lim
theorem RW.fr {Y : Nat → Prop} {w w' : World} {X : Nat} {lim : Int} {v : Value} {zs : List Int} {err : Int} (h : RW w X lim v zs err) (hf : Fr Y w w') (hX : ∀ k, Xw X v k → ¬ Y k) : RW w' X lim v zs err :=
  ⟨At.fr h.cell hf (hX X (.inl rfl)), h.own.fr hf (fun k hk => hX k (.inr hk)), h.off, h.low, h.high, h.fits⟩
def rwt (X : Nat) (lim : Int) (v : Value) (zs : List Int) (err : Int) : Thg where
  ok w := RW w X lim v zs err
  foot k := Xw X v k
  stable h hf hX := h.fr hf hX
  inside h k hk := by
    rcases hk with rfl | hk
    · exact h.cell.lt
    · exact h.own.lt k hk
/-- What a writing call leaves. -/
def RBW (w0 : World) (l : List Thg) (X : Nat) (lim : Int) (zs' : List Int) (err' : Int) (e : Ending) (w' : World) : Prop := e = .returned (.int .i64 err') ∧ ∃ v', Bag w0 w' (rwt X lim v' zs' err' :: l)
theorem rw_set {w0 w w' : World} {l : List Thg} {X : Nat} {lim : Int} {v : Value} {zs : List Int} {err : Int} (c : Int) (h : Bag w0 w (rwt X lim v zs err :: l)) (e : w' = w.setCell ⟨X, 2, none⟩ (.int .i64 c)) : Bag w0 w' (rwt X lim v zs c :: l) := by
  subst e
  have hh := h.head
  have hF := (Fr.refl (fun k => k = X) w).setCell X 2 (.int .i64 c) (fun _ => rfl)
  exact h.act (hF.mono fun _ _ hx => .inl hx) (show RW _ X lim v zs c from ⟨hh.cell.setCell 2 _, hh.own.fr hF (fun k hk e => hh.off (by rw [hk, e])), hh.off, hh.low, hh.high, hh.fits⟩) (fun _ hk => .inl hk)
set_option maxHeartbeats 1600000 in
theorem put_any (w0 w : World) (l : List Thg) (X : Nat) (lim : Int) (v : Value) (zs : List Int) (err : Int) (a : Option Addr) (n c : Nat) (ns : List Int) (hB : Bag w0 w (rwt X lim v zs err :: l)) (hx : BIn w (.slice a n c) ns) (hn : n ≤ 1099511627776 - 1048576) :
    Calls Try.prog 192 #[.pointer (some ⟨X, 0, none⟩), .slice a n c] w (RBW w0 l X lim (putZ lim err zs ns) (putE lim err zs ns.length)) := by
  have h := hB.head
  obtain ⟨va, vc, hv⟩ := len_of h.own
  have hnl : n = ns.length := by obtain ⟨_, _, e, _⟩ := hx; cases e; rfl
  have c0 : w.cell? ⟨X, 0, none⟩ = some (.int .i64 lim) := by rw [h.cell.cell]; rfl
  have c1 : w.cell? ⟨X, 1, none⟩ = some (.slice va zs.length vc) := by rw [h.cell.cell, hv]; rfl
  have c2 : w.cell? ⟨X, 2, none⟩ = some (.int .i64 err) := by rw [h.cell.cell]; rfl
  have hfit := h.fits
  have hlo := h.low
  have hhi := h.high
  have f2 := h.cell.frozen 2
  have HB := WirS.hide hB
  unfold putZ
  rw [← hnl]
  unfold putE
  obtain ⟨k, hk⟩ : ∃ k, k = zs.length := ⟨_, rfl⟩
  rw [← hk] at c1 hfit ⊢
  have w1 : IntKind.i64.wrap (↑k + ↑n) = (k : Int) + (n : Int) := IntWalk.i64_in _ (by omega)
  by_cases he : err = 0
  · subst he
    simp only [ne_eq, not_true_eq_false, if_false]
    by_cases hlim : lim < (k : Int) + (n : Int)
    · rw [if_pos hlim, if_neg (by decide)]
      have hd : decide (lim < (k : Int) + (n : Int)) = true := decide_eq_true hlim
      clear hv hk h hx hB hlim hnl
      go_enter Try.func192, Try.ntmps192
      go_upto_region 1 with fail
      go_quiet (fail)
      go_wp2_with fail
      go_ret
      exact ⟨rfl, v, rw_set 4 (HB.out.more (below_drewN (Below.refl _ _) _)) rfl⟩
    · rw [if_neg hlim, if_pos rfl]
      have hd : decide (lim < (k : Int) + (n : Int)) = false := decide_eq_false hlim
      have hb0 : ∀ q, Below w.heap.size w (w.drewN q) := fun q => below_drewN (Below.refl _ _) q
      have HH := WirS.hide h
      have hA : ∀ q, ∃ a1 m1 c1 U1 a2 m2 c2 U2, (Builtin.append_ #[32, 32] 32 #[.slice (some ⟨(w.drewN q).heap.size, 0, none⟩) 0 0, .slice va k vc]).run Try.prog ((w.drewN q).alloc (.cells #[] 5)) = .ok (.slice a1 m1 c1) U1 ∧
          (Builtin.append_ #[32, 32] 32 #[.slice a1 m1 c1, .slice a n c]).run Try.prog U1 = .ok (.slice a2 m2 c2) U2 ∧ NO w U2 (.slice a2 m2 c2) (zs ++ ns) := fun q => by
        have hz := no_zero w (w.drewN q) (hb0 q)
        have hbin := h.own.bin
        rw [hv, ← hk] at hbin
        obtain ⟨a1, m1, c1, U1, _, r1, n1, _⟩ := cat hz (hbin.below hz.2.2) (by simp; omega)
        rw [List.nil_append] at n1
        obtain ⟨a2, m2, c2, U2, _, r2, n2, _⟩ := cat n1 (hx.below n1.2.2) (by omega)
        exact ⟨a1, m1, c1, U1, a2, m2, c2, U2, r1, r2, n2⟩
      have HA := WirS.hide hA
      have HL := WirS.hide (show (((zs ++ ns).length : Nat) : Int) ≤ lim by rw [List.length_append]; omega)
      have HV := WirS.hide (show v = .slice va k vc from by rw [hv, hk])
      clear hv hk h hx hB hlim hA hb0 hnl
      go_enter Try.func192, Try.ntmps192
      go_upto_region 1 with fail
      go_quiet (fail)
      go_upto_region 4 with fail
      obtain ⟨a1, m1, c1', U1, a2, m2, c2', U2, r1, r2, no2⟩ := HA.out nq
      have hal : Below w.heap.size w ((w.drewN nq).alloc (.cells #[] 5)) := Below.alloc (below_drewN (Below.refl _ _) _) (Nat.le_refl _) _
      have hX := HH.out.cell.lt
      have at2 : At U2 X 147 [.int .i64 lim, v, .int .i64 0] := At.fr (X := fun _ => False) HH.out.cell (Fr.of_below no2.2.2) (fun h => h)
      have cz : ((w.drewN nq).alloc (.cells #[] 5)).cell? ⟨X, 1, none⟩ = some (.slice va k vc) := (hal.cell hX).trans c1
      have hf := at2.frozen 1
      have hf2 := at2.frozen 2
      have hc : U2.cell? ⟨X, 1, none⟩ = some (.slice va k vc) := by rw [at2.cell, ← HV.out]; rfl
      have hc2 : U2.cell? ⟨X, 2, none⟩ = some (.int .i64 0) := by rw [at2.cell]; rfl
      have AT := WirS.hide at2
      have NO2 := WirS.hide no2
      refine wp_region_lit ?_
      refine sV (.pointer (some ⟨X, 0, none⟩)) (w.drewN nq) (by kernel_rfl) (by kernel_rfl) ?_
      simp only [Act.put, List.setIfInBounds_toArray, List.set_cons_succ, List.set_cons_zero]
      refine sV (.slice (some ⟨(w.drewN nq).heap.size, 0, none⟩) 0 0) ((w.drewN nq).alloc (.cells #[] 5)) (by kernel_rfl) (by kernel_rfl) ?_
      simp only [Act.put, List.setIfInBounds_toArray, List.set_cons_succ, List.set_cons_zero]
      refine sV (.pointer (some ⟨X, 0, none⟩)) ((w.drewN nq).alloc (.cells #[] 5)) (by kernel_rfl) (by kernel_rfl) ?_
      simp only [Act.put, List.setIfInBounds_toArray, List.set_cons_succ, List.set_cons_zero]
      refine sV (.pointer (some ⟨X, 0, none⟩)) ((w.drewN nq).alloc (.cells #[] 5)) (by kernel_rfl) (by kernel_rfl) ?_
      simp only [Act.put, List.setIfInBounds_toArray, List.set_cons_succ, List.set_cons_zero]
      refine sV (.pointer (some ⟨X, 1, none⟩)) ((w.drewN nq).alloc (.cells #[] 5)) (by kernel_rfl) (by kernel_rfl) ?_
      simp only [Act.put, List.setIfInBounds_toArray, List.set_cons_succ, List.set_cons_zero]
      refine sP (by kernel_rfl) _ _ (by rfl) ⟨X, 1, none⟩ (by kernel_rfl) (.slice va k vc) cz (by kernel_rfl) ?_
      simp only [Act.put, List.setIfInBounds_toArray, List.set_cons_succ, List.set_cons_zero]
      refine sA (by kernel_rfl) 32 32 _ _ (by rfl) (.slice (some ⟨(w.drewN nq).heap.size, 0, none⟩) 0 0) (.slice va k vc) (by kernel_rfl) (by kernel_rfl) (.slice a1 m1 c1') (U1) r1 ?_
      simp only [Act.put, List.setIfInBounds_toArray, List.set_cons_succ, List.set_cons_zero]
      refine sV (.slice a n c) (U1) (by kernel_rfl) (by kernel_rfl) ?_
      simp only [Act.put, List.setIfInBounds_toArray, List.set_cons_succ, List.set_cons_zero]
      refine sA (by kernel_rfl) 32 32 _ _ (by rfl) (.slice a1 m1 c1') (.slice a n c) (by kernel_rfl) (by kernel_rfl) (.slice a2 m2 c2') (U2) r2 ?_
      simp only [Act.put, List.setIfInBounds_toArray, List.set_cons_succ, List.set_cons_zero]
      clear r1 r2 HA cz no2 at2 hal c0 c1 c2 f2
      go_wp2_with fail
      go_ret
      have n2 := NO2.out
      have h := HH.out
      refine ⟨rfl, .slice a2 m2 c2', (HB.out.act (o' := rwt X lim (.slice a2 m2 c2') (zs ++ ns) 0) ((Fr.of_below n2.2.2).setCell X 1 _ (fun _ => .inl rfl)) ⟨AT.out.setCell 1 _, ?_, ?_, h.low, h.high, HL.out⟩ ?_)⟩
      · exact n2.1.fr (X := fun k => k = X) ((Fr.refl _ U2).setCell X 1 _ (fun _ => rfl)) (fun k hk hx => by have := n2.2.1 k hk; subst hx; omega)
      · intro hk
        have := n2.2.1 X hk
        omega
      · intro k hk
        rcases hk with rfl | hk
        · exact .inl (.inl rfl)
        · exact .inr (n2.2.1 k hk)
  · rw [if_pos he, if_neg he]
    have e1 : (err == 0) = false := by simpa using he
    clear hv hk h hx hB he hnl
    go_enter Try.func192, Try.ntmps192
    go_upto_region 1 with fail
    go_quiet (fail)
    go_wp2_with fail
    go_ret
    exact ⟨rfl, v, HB.out.more (below_drewN (Below.refl _ _) _)⟩
theorem done_err (w : World) (X : Nat) (lim : Int) (v : Value) (zs : List Int) (err : Int) (h : RW w X lim v zs err) (he : err ≠ 0) : Calls Try.prog 28 #[.pointer (some ⟨X, 0, none⟩)] w fun e w' => e = .returned (.tuple #[.slice none 0 0, .int .i64 err]) ∧ Below w.heap.size w w' := by
  have c2 : w.cell? ⟨X, 2, none⟩ = some (.int .i64 err) := by rw [h.cell.cell]; rfl
  have e1 : (err != 0) = true := by simpa using he
  clear h he
  go_enter Try.func28, Try.ntmps28
  go_upto_region 2 with fail
  go_quiet (fail)
  go_wp2_with fail
  go_ret2
  exact ⟨rfl, below_drewN (Below.refl _ _) _⟩
theorem done_ok (w : World) (X : Nat) (lim : Int) (v : Value) (zs : List Int) (h : RW w X lim v zs 0) :
    Calls Try.prog 28 #[.pointer (some ⟨X, 0, none⟩)] w fun e w' => ∃ va vn vc, e = .returned (.tuple #[.slice va vn vc, .int .i64 0]) ∧ NO w w' (.slice va vn vc) zs := by
  obtain ⟨va, vc, hv⟩ := len_of h.own
  have c1 : w.cell? ⟨X, 1, none⟩ = some (.slice va zs.length vc) := by rw [h.cell.cell, hv]; rfl
  have c2 : w.cell? ⟨X, 2, none⟩ = some (.int .i64 0) := by rw [h.cell.cell]; rfl
  have hbin := h.own.bin
  rw [hv] at hbin
  have hz := no_zero w w (Below.refl _ _)
  obtain ⟨a1, m1, c1', U1, _, r1, n1, _⟩ := cat hz (hbin.below hz.2.2) (by have := h.fits; have := h.high; simp; omega)
  rw [List.nil_append] at n1
  have cz : (w.alloc (.cells #[] 5)).cell? ⟨X, 1, none⟩ = some (.slice va zs.length vc) := (hz.2.2.cell h.cell.lt).trans c1
  have N := WirS.hide n1
  obtain ⟨k, hk⟩ : ∃ k, k = zs.length := ⟨_, rfl⟩
  rw [← hk] at r1 cz c1
  clear h hv hbin hz n1 hk
  go_enter Try.func28, Try.ntmps28
  go_upto_region 3 with fail
  refine wp_region_lit ?_
  refine sV (.slice (some ⟨w.heap.size, 0, none⟩) 0 0) (w.alloc (.cells #[] 5)) (by kernel_rfl) (by kernel_rfl) ?_
  simp only [Act.put, List.setIfInBounds_toArray, List.set_cons_succ, List.set_cons_zero]
  refine sV (.pointer (some ⟨X, 0, none⟩)) (w.alloc (.cells #[] 5)) (by kernel_rfl) (by kernel_rfl) ?_
  simp only [Act.put, List.setIfInBounds_toArray, List.set_cons_succ, List.set_cons_zero]
  refine sV (.pointer (some ⟨X, 0, none⟩)) (w.alloc (.cells #[] 5)) (by kernel_rfl) (by kernel_rfl) ?_
  simp only [Act.put, List.setIfInBounds_toArray, List.set_cons_succ, List.set_cons_zero]
  refine sV (.pointer (some ⟨X, 1, none⟩)) (w.alloc (.cells #[] 5)) (by kernel_rfl) (by kernel_rfl) ?_
  simp only [Act.put, List.setIfInBounds_toArray, List.set_cons_succ, List.set_cons_zero]
  refine sP (by kernel_rfl) _ _ (by rfl) ⟨X, 1, none⟩ (by kernel_rfl) (.slice va k vc) cz (by kernel_rfl) ?_
  simp only [Act.put, List.setIfInBounds_toArray, List.set_cons_succ, List.set_cons_zero]
  refine sA (by kernel_rfl) 32 32 _ _ (by rfl) (.slice (some ⟨w.heap.size, 0, none⟩) 0 0) (.slice va k vc) (by kernel_rfl) (by kernel_rfl) (.slice a1 m1 c1') (U1) r1 ?_
  simp only [Act.put, List.setIfInBounds_toArray, List.set_cons_succ, List.set_cons_zero]
  go_wp2_with fail
  go_ret2
  exact ⟨a1, m1, c1', rfl, N.out⟩
theorem new_no (w : World) (lim : Int) (h : lim < 0 ∨ 1048576 < lim) : Calls Try.prog 21 #[.int .i64 lim] w fun e w' => e = .returned (.tuple #[.pointer none, .int .i64 3]) ∧ w = w' := by
  by_cases h0 : lim < 0
  · have hd : decide (lim < 0) = true := decide_eq_true h0
    clear h
    go_enter Try.func21, Try.ntmps21
    go_wp2_with fail
    go_ret2
    exact ⟨rfl, rfl⟩
  · have hd : decide (lim < 0) = false := decide_eq_false h0
    have h2 : 1048576 < lim := by omega
    have hd2 : decide (1048576 < lim) = true := decide_eq_true h2
    clear h
    go_enter Try.func21, Try.ntmps21
    go_wp2_with fail
    go_ret2
    exact ⟨rfl, rfl⟩
theorem new_any (w : World) (lim : Int) (h0 : 0 ≤ lim) (h1 : lim ≤ 1048576) : Calls Try.prog 21 #[.int .i64 lim] w fun e w' => ∃ X, e = .returned (.tuple #[.pointer (some ⟨X, 0, none⟩), .int .i64 0]) ∧ w.heap.size ≤ X ∧ RW w' X lim (.slice none 0 0) [] 0 ∧ Below w.heap.size w w' := by
  have hd : decide (lim < 0) = false := decide_eq_false (by omega)
  have hd2 : decide (1048576 < lim) = false := decide_eq_false (by omega)
  have hA := At.new w 147 [.int .i64 lim, .slice none 0 0, .int .i64 0]
  go_enter Try.func21, Try.ntmps21
  go_wp2_with fail
  go_ret2
  exact ⟨_, rfl, Nat.le_refl _, ⟨hA, WirM.Own.nil _ _, fun h => by simp [Value.ownBlock] at h, h0, h1, by simpa using h0⟩, Below.alloc (Below.refl _ _) (Nat.le_refl _) _⟩
end WrwB
end Go.Proofs.Ythcemghamdmjmaa

namespace Go.Proofs.Ythcemghamdmjmaa
namespace WrwC
open Go.RowKit PaceA FltC
open BlkM WirM WirS WirA WrwA WrwB
open WirD (nb numB nb_le)
open WirE (NewB tb tb_len bin_bw below_bw)
open WirF (boolB wordB)
open WirRT (dg_len wordB_dg)
open WirBC (numB_dg)
open WirX (Thg Bag own)

theorem bin_len {w : World} {a : Option Addr} {n c : Nat} {zs : List Int} (h : BIn w (.slice a n c) zs) : n = zs.length := by
  obtain ⟨_, _, e, _⟩ := h
  cases e
  rfl
theorem put_at {w0 w : World} {l : List Thg} {X : Nat} {lim : Int} {v : Value} {zs : List Int} {err : Int} (ns : List Int) (hB : Bag w0 w (rwt X lim v zs err :: l)) (hl : ns.length ≤ 1099511627776 - 1048576) :
    Hid (∀ U a n c, Below w.heap.size w U → BIn U (.slice a n c) ns → Calls Try.prog 192 #[.pointer (some ⟨X, 0, none⟩), .slice a n c] U (RBW w0 l X lim (putZ lim err zs ns) (putE lim err zs ns.length))) :=
  WirS.hide (fun U a n c hb hx => put_any w0 U l X lim v zs err a n c ns (hB.more hb) hx (by rw [show n = ns.length from bin_len hx]; exact hl))
theorem numB_len (n : Int) (h1 : n < 18446744073709551616) : (numB n).length ≤ 9 := by
  rw [numB_dg _ h1, List.length_cons, dg_len]
  have := nb_le n h1
  omega
theorem num_neg (w0 w : World) (l : List Thg) (X : Nat) (lim : Int) (v : Value) (zs : List Int) (err n : Int) (hB : Bag w0 w (rwt X lim v zs err :: l)) (hn : n < 0) :
    Calls Try.prog 104 #[.pointer (some ⟨X, 0, none⟩), .int .i64 n] w (RBW w0 l X lim zs (if err ≠ 0 then err else 3)) := by
  have c2 : w.cell? ⟨X, 2, none⟩ = some (.int .i64 err) := by rw [hB.head.cell.cell]; rfl
  have f2 := hB.head.cell.frozen 2
  have HB := WirS.hide hB
  have hd : decide (n < 0) = true := decide_eq_true hn
  clear hB
  by_cases he : err = 0
  · subst he
    go_enter Try.func104, Try.ntmps104
    go_wp2_with fail
    go_ret
    exact ⟨rfl, v, rw_set 3 HB.out rfl⟩
  · have e1 : (err == 0) = false := by simpa using he
    have e2 : (err != 0) = true := by simpa using he
    rw [if_pos he]
    clear he
    go_enter Try.func104, Try.ntmps104
    go_wp2_with fail
    go_ret
    exact ⟨rfl, v, HB.out⟩
theorem num_any (w0 w : World) (l : List Thg) (X : Nat) (lim : Int) (v : Value) (zs : List Int) (err n : Int) (hB : Bag w0 w (rwt X lim v zs err :: l)) (hn : 0 ≤ n) (h1 : n < 9223372036854775808) :
    Calls Try.prog 104 #[.pointer (some ⟨X, 0, none⟩), .int .i64 n] w (RBW w0 l X lim (putZ lim err zs (numB n)) (putE lim err zs (numB n).length)) := by
  have c2 : w.cell? ⟨X, 2, none⟩ = some (.int .i64 err) := by rw [hB.head.cell.cell]; rfl
  have hd : decide (n < 0) = false := decide_eq_false (by omega)
  have P := put_at (numB n) hB (by have := numB_len n (by omega); omega)
  have N := WirS.hide (number_any w n hn h1)
  have HB := WirS.hide hB
  clear hB
  by_cases he : err = 0
  · subst he
    generalize putE lim 0 zs (numB n).length = E at P ⊢
    generalize putZ lim 0 zs (numB n) = Z at P ⊢
    go_enter Try.func104, Try.ntmps104
    go_wp2_with (first
      | (go_at_call 193; refine (N.out).mono ?_; rintro e U ⟨a, m, c, hm, rfl, hd⟩; have HD := WirS.hide hd; clear hd hm)
      | (go_at_call 192; refine (P.out _ a m c HD.out.2.2 HD.out.1.bin).mono ?_; rintro e U2 ⟨rfl, hq⟩; have HQ := WirS.hide hq; clear hq))
    go_ret
    exact ⟨rfl, HQ.out⟩
  · have e1 : (err == 0) = false := by simpa using he
    have e2 : (err != 0) = true := by simpa using he
    have hE : putE lim err zs (numB n).length = err := by unfold putE; rw [if_pos he]
    have hZ : putZ lim err zs (numB n) = zs := by unfold putZ; rw [hE, if_neg he]
    rw [hE, hZ]
    clear he hE hZ P N
    go_enter Try.func104, Try.ntmps104
    go_wp2_with fail
    go_ret
    exact ⟨rfl, v, HB.out⟩
theorem bytes_any (w0 w : World) (l : List Thg) (X : Nat) (lim : Int) (v : Value) (zs : List Int) (err : Int) (a : Option Addr) (n c : Nat) (bd : List Int) (hB : Bag w0 w (rwt X lim v zs err :: l)) (hx : BIn w (.slice a n c) bd) (hn : n ≤ 1048576) :
    Calls Try.prog 106 #[.pointer (some ⟨X, 0, none⟩), .slice a n c] w (RBW w0 l X lim (putZ lim err zs (numB n ++ bd)) (putE lim err zs (numB n ++ bd).length)) := by
  have hnl : n = bd.length := by obtain ⟨_, _, e, _⟩ := hx; cases e; rfl
  have C := WirS.hide (counted_any w a n c bd hx (by omega))
  have P := put_at (numB n ++ bd) hB (by rw [List.length_append]; have := numB_len n (by omega); omega)
  generalize putE lim err zs (numB n ++ bd).length = E at P ⊢
  generalize putZ lim err zs (numB n ++ bd) = Z at P ⊢
  clear hB hx hnl
  go_enter Try.func106, Try.ntmps106
  go_wp2_with (first
    | (go_at_call 194; refine (C.out).mono ?_; rintro e U ⟨ad, m, cd, hm, rfl, hd⟩; have HD := WirS.hide hd; clear hd hm)
    | (go_at_call 192; refine (P.out _ ad m cd HD.out.2.2 HD.out.1.bin).mono ?_; rintro e U2 ⟨rfl, hq⟩; have HQ := WirS.hide hq; clear hq))
  go_ret
  exact ⟨rfl, HQ.out⟩
theorem text_any (w0 w : World) (l : List Thg) (X : Nat) (lim : Int) (v : Value) (zs : List Int) (err : Int) (s : ByteArray) (hB : Bag w0 w (rwt X lim v zs err :: l)) (hn : s.size ≤ 1048576) :
    Calls Try.prog 105 #[.pointer (some ⟨X, 0, none⟩), .string s] w (RBW w0 l X lim (putZ lim err zs (numB s.size ++ tb s)) (putE lim err zs (numB s.size ++ tb s).length)) := by
  have hcv := fun W1 => Lib.run_convert_string_bytes (P := Try.prog) W1 9 32 5 s Try.underlying9 Try.underlying32 Try.underlying5
  have hb := below_bw w s
  have C := WirS.hide (fun c hc => counted_any (Lib.bytesWorld w 5 s) (some ⟨w.heap.size, 0, none⟩) s.size c (tb s) (bin_bw w s c hc) (by omega))
  have P := put_at (numB s.size ++ tb s) (hB.more hb) (by rw [List.length_append, tb_len]; have := numB_len s.size (by omega); omega)
  generalize putE lim err zs (numB s.size ++ tb s).length = E at P ⊢
  generalize putZ lim err zs (numB s.size ++ tb s) = Z at P ⊢
  have hm2 : s.size ≤ 9223372036854775807 := by omega
  clear hB hb
  go_enter Try.func105, Try.ntmps105
  go_wp2_with (first
    | (go_at_call 194; refine (C.out _ (grownCap_ge w s.size 0 5)).mono ?_; rintro e U ⟨ad, m, cd, hm, rfl, hd⟩; have HD := WirS.hide hd; clear hd hm)
    | (go_at_call 192; refine (P.out _ ad m cd HD.out.2.2 HD.out.1.bin).mono ?_; rintro e U2 ⟨rfl, hq⟩; have HQ := WirS.hide hq; clear hq))
  go_ret
  exact ⟨rfl, HQ.out⟩
theorem word_any (w0 w : World) (l : List Thg) (X : Nat) (lim : Int) (v : Value) (zs : List Int) (err n : Int) (hB : Bag w0 w (rwt X lim v zs err :: l)) (h0 : 0 ≤ n) :
    Calls Try.prog 109 #[.pointer (some ⟨X, 0, none⟩), .int .u64 n] w (RBW w0 l X lim (putZ lim err zs (wordB n)) (putE lim err zs (wordB n).length)) := by
  have N := WirS.hide (WrwA.word_any w n h0)
  have P := put_at (wordB n) hB (by rw [wordB_dg, dg_len]; omega)
  generalize putE lim err zs (wordB n).length = E at P ⊢
  generalize putZ lim err zs (wordB n) = Z at P ⊢
  clear hB h0
  go_enter Try.func109, Try.ntmps109
  go_wp2_with (first
    | (go_at_call 195; refine (N.out).mono ?_; rintro e U ⟨a, m, c, hm, rfl, hd⟩; have HD := WirS.hide hd; clear hd hm)
    | (go_at_call 192; refine (P.out _ a m c HD.out.2.2 HD.out.1.bin).mono ?_; rintro e U2 ⟨rfl, hq⟩; have HQ := WirS.hide hq; clear hq))
  go_ret
  exact ⟨rfl, HQ.out⟩
theorem bool_any (w0 w : World) (l : List Thg) (X : Nat) (lim : Int) (v : Value) (zs : List Int) (err : Int) (b : Bool) (hB : Bag w0 w (rwt X lim v zs err :: l)) :
    Calls Try.prog 111 #[.pointer (some ⟨X, 0, none⟩), .bool b] w (RBW w0 l X lim (putZ lim err zs (boolB b)) (putE lim err zs (boolB b).length)) := by
  have N := WirS.hide (WrwA.bool_any w b)
  have P := put_at (boolB b) hB (by simp [boolB])
  generalize putE lim err zs (boolB b).length = E at P ⊢
  generalize putZ lim err zs (boolB b) = Z at P ⊢
  clear hB
  go_enter Try.func111, Try.ntmps111
  go_wp2_with (first
    | (go_at_call 196; refine (N.out).mono ?_; rintro e U ⟨a, m, c, hm, rfl, hd⟩; have HD := WirS.hide hd; clear hd hm)
    | (go_at_call 192; refine (P.out _ a m c HD.out.2.2 HD.out.1.bin).mono ?_; rintro e U2 ⟨rfl, hq⟩; have HQ := WirS.hide hq; clear hq))
  go_ret
  exact ⟨rfl, HQ.out⟩
set_option maxHeartbeats 800000 in
theorem hash_any (w0 w : World) (l : List Thg) (X : Nat) (lim : Int) (v : Value) (zs : List Int) (err : Int) (h : List Int) (hl : h.length = 32) (hB : Bag w0 w (rwt X lim v zs err :: l)) :
    Calls Try.prog 107 #[.pointer (some ⟨X, 0, none⟩), .agg (b8 h).toArray] w (RBW w0 l X lim (putZ lim err zs h) (putE lim err zs h.length)) := by
  have hx := BIn.new w 34 h 32 32 (0, 0) (by omega) (Nat.le_refl _)
  rw [show h.take 32 = h by rw [← hl, List.take_length]] at hx
  have hb : Below w.heap.size w (w.alloc (.cells (b8 h).toArray 34)) := Below.alloc (Below.refl _ _) (Nat.le_refl _) _
  have hz := no_zero w _ hb
  obtain ⟨a1, m1, c1, U1, hm1, r1, n1, _⟩ := cat hz (hx.below (Below.alloc (Below.refl _ _) (Nat.le_refl _) _)) (by simp; omega)
  rw [List.nil_append] at n1
  have P := put_at h hB (by omega)
  have Q := WirS.hide (P.out U1 a1 m1 c1 n1.2.2 n1.1.bin)
  generalize putE lim err zs h.length = E at Q ⊢
  generalize putZ lim err zs h = Z at Q ⊢
  clear hB hx hb hz n1 hm1 P hl
  go_enter Try.func107, Try.ntmps107
  go_upto_region 1 with fail
  refine wp_region_lit ?_
  refine sV (.pointer (some ⟨X, 0, none⟩)) (w.alloc (.cells (b8 h).toArray 34)) (by kernel_rfl) (by kernel_rfl) ?_
  simp only [Act.put, List.setIfInBounds_toArray, List.set_cons_succ, List.set_cons_zero]
  refine sV (.slice (some ⟨(w.alloc (.cells (b8 h).toArray 34)).heap.size, 0, none⟩) 0 0) ((w.alloc (.cells (b8 h).toArray 34)).alloc (.cells #[] 5)) (by kernel_rfl) (by kernel_rfl) ?_
  simp only [Act.put, List.setIfInBounds_toArray, List.set_cons_succ, List.set_cons_zero]
  refine sV (.slice (some ⟨w.heap.size, 0, none⟩) 32 32) ((w.alloc (.cells (b8 h).toArray 34)).alloc (.cells #[] 5)) (by kernel_rfl) (by kernel_rfl) ?_
  simp only [Act.put, List.setIfInBounds_toArray, List.set_cons_succ, List.set_cons_zero]
  refine sA (by kernel_rfl) 32 32 _ _ (by rfl) (.slice (some ⟨(w.alloc (.cells (b8 h).toArray 34)).heap.size, 0, none⟩) 0 0) (.slice (some ⟨w.heap.size, 0, none⟩) 32 32) (by kernel_rfl) (by kernel_rfl) (.slice a1 m1 c1) (U1) r1 ?_
  simp only [Act.put, List.setIfInBounds_toArray, List.set_cons_succ, List.set_cons_zero]
  refine WirAB.sCx (by kernel_rfl) (by kernel_rfl) Q.out ?_
  rintro e U2 ⟨rfl, hq⟩
  refine ⟨_, rfl, ?_⟩
  simp only [Act.put, List.setIfInBounds_toArray, List.set_cons_succ, List.set_cons_zero]
  have HQ := WirS.hide hq
  clear hq Q r1
  go_wp2_with fail
  go_ret
  exact ⟨rfl, HQ.out⟩
set_option maxHeartbeats 800000 in
theorem key_any (w0 w : World) (l : List Thg) (X : Nat) (lim : Int) (v : Value) (zs : List Int) (err : Int) (h : List Int) (hl : h.length = 4) (hB : Bag w0 w (rwt X lim v zs err :: l)) :
    Calls Try.prog 108 #[.pointer (some ⟨X, 0, none⟩), .agg (b8 h).toArray] w (RBW w0 l X lim (putZ lim err zs h) (putE lim err zs h.length)) := by
  have hx := BIn.new w 36 h 4 4 (0, 0) (by omega) (Nat.le_refl _)
  rw [show h.take 4 = h by rw [← hl, List.take_length]] at hx
  have hb : Below w.heap.size w (w.alloc (.cells (b8 h).toArray 36)) := Below.alloc (Below.refl _ _) (Nat.le_refl _) _
  have hz := no_zero w _ hb
  obtain ⟨a1, m1, c1, U1, hm1, r1, n1, _⟩ := cat hz (hx.below (Below.alloc (Below.refl _ _) (Nat.le_refl _) _)) (by simp; omega)
  rw [List.nil_append] at n1
  have P := put_at h hB (by omega)
  have Q := WirS.hide (P.out U1 a1 m1 c1 n1.2.2 n1.1.bin)
  generalize putE lim err zs h.length = E at Q ⊢
  generalize putZ lim err zs h = Z at Q ⊢
  clear hB hx hb hz n1 hm1 P hl
  go_enter Try.func108, Try.ntmps108
  go_upto_region 1 with fail
  refine wp_region_lit ?_
  refine sV (.pointer (some ⟨X, 0, none⟩)) (w.alloc (.cells (b8 h).toArray 36)) (by kernel_rfl) (by kernel_rfl) ?_
  simp only [Act.put, List.setIfInBounds_toArray, List.set_cons_succ, List.set_cons_zero]
  refine sV (.slice (some ⟨(w.alloc (.cells (b8 h).toArray 36)).heap.size, 0, none⟩) 0 0) ((w.alloc (.cells (b8 h).toArray 36)).alloc (.cells #[] 5)) (by kernel_rfl) (by kernel_rfl) ?_
  simp only [Act.put, List.setIfInBounds_toArray, List.set_cons_succ, List.set_cons_zero]
  refine sV (.slice (some ⟨w.heap.size, 0, none⟩) 4 4) ((w.alloc (.cells (b8 h).toArray 36)).alloc (.cells #[] 5)) (by kernel_rfl) (by kernel_rfl) ?_
  simp only [Act.put, List.setIfInBounds_toArray, List.set_cons_succ, List.set_cons_zero]
  refine sA (by kernel_rfl) 32 32 _ _ (by rfl) (.slice (some ⟨(w.alloc (.cells (b8 h).toArray 36)).heap.size, 0, none⟩) 0 0) (.slice (some ⟨w.heap.size, 0, none⟩) 4 4) (by kernel_rfl) (by kernel_rfl) (.slice a1 m1 c1) (U1) r1 ?_
  simp only [Act.put, List.setIfInBounds_toArray, List.set_cons_succ, List.set_cons_zero]
  refine WirAB.sCx (by kernel_rfl) (by kernel_rfl) Q.out ?_
  rintro e U2 ⟨rfl, hq⟩
  refine ⟨_, rfl, ?_⟩
  simp only [Act.put, List.setIfInBounds_toArray, List.set_cons_succ, List.set_cons_zero]
  have HQ := WirS.hide hq
  clear hq Q r1
  go_wp2_with fail
  go_ret
  exact ⟨rfl, HQ.out⟩
end WrwC
end Go.Proofs.Ythcemghamdmjmaa

