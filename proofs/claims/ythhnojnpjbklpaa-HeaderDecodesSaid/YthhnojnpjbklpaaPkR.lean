/-
  HdL, HdM, in one text.
-/
import Derived.Test.YthhnojnpjbklpaaPkQ
import Derived.Test.YthhnojnpjbklpaaPkO
namespace Go.Proofs.Ythhnojnpjbklpaa
namespace HdL
open Go.RowKit
open BlkM WirM WirS HdA HdB HdC HdE HdF HdG
open WirJ (st sizedO)
open WirP (aggB)
open WirX (Thg Bag)
open WirAA (box bag_box bag_sets)
open WirAB (turn3 there_at)
open WirRT (rng)
open ValSC ValK ValSK ValSM

set_option maxRecDepth 10000 in
set_option maxHeartbeats 4000000 in
theorem rname_any (w : World) (s : ByteArray) (hs : s.size ≤ 1099511627776) : Calls Try.prog 184 #[.string s] w fun e w' => e = .returned (.bool (nameB s)) ∧ w = w' := by
  obtain ⟨res, hres⟩ : ∃ b, nameB s = b := ⟨_, rfl⟩
  rw [hres]
  have HRES := WirS.hide hres
  have HSZ := WirS.hide hs
  have hs2 : (s.size : Int) ≤ 1099511627776 := by omega
  clear hres hs
  go_enter Try.func184, Try.ntmps184
  go_wp2_with fail
  go_loop [3] (fun i => ∃ k : Nat, k ≤ s.size ∧ i = .int .i64 (k : Int) ∧ ∀ j, j < k → okc (bt s j) = true) (fun i => s.size - (intOf i).toNat)
  case atStart => exact ⟨0, Nat.zero_le _, rfl, fun j h => absurd h (Nat.not_lt_zero j)⟩
  case round =>
    obtain ⟨k, hk, rfl, hok⟩ := hrel
    have HOK := WirS.hide hok
    clear hok
    by_cases hlt : k < s.size
    · have hkl : (k : Int) < (s.size : Int) := by omega
      have hb : bt s k = ((s[k]'hlt).toNat : Int) := by unfold bt; rw [dif_pos hlt]
      obtain ⟨x, hx⟩ : ∃ x, bt s k = x := ⟨_, rfl⟩
      have HX := WirS.hide hx
      have hix : ∀ W, (Instr.index 9 (.string s) (.int .i64 (k : Int))).run Try.prog W = .ok (.int .u8 x) W := fun W => by
        rw [← hx, hb]
        go_simp
      rw [hx] at hb
      clear hb hx
      have HLT := WirS.hide hlt
      have HNO := WirS.hide (fun (h : okc x = false) => show res = false from by
        rw [← HRES.out]
        have : allc s = false := by
          unfold allc
          exact decide_eq_false (fun h2 => by have := h2 k hlt; rw [HX.out, h] at this; cases this)
        simp [nameB, this])
      have HYES := WirS.hide (fun (h : okc x = true) => show ∀ j, j < k + 1 → okc (bt s j) = true from fun j hj => by
        rcases Nat.lt_or_ge j k with h1 | h1
        · exact HOK.out j h1
        · obtain rfl : j = k := by omega
          rw [HX.out]
          exact h)
      obtain hc | hc | hc | hc | hc | hc | hc : x < 45 ∨ x = 45 ∨ (46 ≤ x ∧ x ≤ 47) ∨ (48 ≤ x ∧ x ≤ 57) ∨ (58 ≤ x ∧ x ≤ 96) ∨ (97 ≤ x ∧ x ≤ 122) ∨ 123 ≤ x := by omega
      · have e : okc x = false := by simp [okc]; omega
        have HE := WirS.hide e
        have a0 : decide ((x : Int) < 97) = true := by simp; omega
        have b0 : ((x : Int) < 97) := by omega
        have a1 : decide ((122 : Int) < x) = false := by simp; omega
        have b1 : ¬ ((122 : Int) < x) := by omega
        have a2 : decide ((x : Int) < 48) = true := by simp; omega
        have b2 : ((x : Int) < 48) := by omega
        have a3 : decide ((57 : Int) < x) = false := by simp; omega
        have b3 : ¬ ((57 : Int) < x) := by omega
        have hq : (x != 45) = true := by simp; omega
        clear hc e hlt
        go_wp2_with fail
        go_ret
        exact ⟨by rw [HNO.out HE.out]; rfl, rfl⟩
      · have e : okc x = true := by simp [okc]; omega
        have HE := WirS.hide e
        have hq : (x != 45) = false := by simp [hc]
        have a1 : decide ((x : Int) < 97) = true := by simp; omega
        have a2 : decide ((122 : Int) < x) = false := by simp; omega
        have a3 : decide ((x : Int) < 48) = true := by simp; omega
        have b1 : (x : Int) < 97 := by omega
        have b3 : (x : Int) < 48 := by omega
        clear hc e hlt
        go_wp2_with fail
        go_round
        case rel => exact ⟨k + 1, by have := HLT.out; omega, by go_num, HYES.out HE.out⟩
        case measure => have := HLT.out; simp [intOf]; omega
      · have e : okc x = false := by simp [okc]; omega
        have HE := WirS.hide e
        have a0 : decide ((x : Int) < 97) = true := by simp; omega
        have b0 : ((x : Int) < 97) := by omega
        have a1 : decide ((122 : Int) < x) = false := by simp; omega
        have b1 : ¬ ((122 : Int) < x) := by omega
        have a2 : decide ((x : Int) < 48) = true := by simp; omega
        have b2 : ((x : Int) < 48) := by omega
        have a3 : decide ((57 : Int) < x) = false := by simp; omega
        have b3 : ¬ ((57 : Int) < x) := by omega
        have hq : (x != 45) = true := by simp; omega
        clear hc e hlt
        go_wp2_with fail
        go_ret
        exact ⟨by rw [HNO.out HE.out]; rfl, rfl⟩
      · have e : okc x = true := by simp [okc]; omega
        have HE := WirS.hide e
        have a0 : decide ((x : Int) < 97) = true := by simp; omega
        have b0 : ((x : Int) < 97) := by omega
        have a1 : decide ((122 : Int) < x) = false := by simp; omega
        have b1 : ¬ ((122 : Int) < x) := by omega
        have a2 : decide ((x : Int) < 48) = false := by simp; omega
        have b2 : ¬ ((x : Int) < 48) := by omega
        have a3 : decide ((57 : Int) < x) = false := by simp; omega
        have b3 : ¬ ((57 : Int) < x) := by omega
        have hq : (x != 45) = true := by simp; omega
        clear hc e hlt
        go_wp2_with fail
        go_round
        case rel => exact ⟨k + 1, by have := HLT.out; omega, by go_num, HYES.out HE.out⟩
        case measure => have := HLT.out; simp [intOf]; omega
      · have e : okc x = false := by simp [okc]; omega
        have HE := WirS.hide e
        have a0 : decide ((x : Int) < 97) = true := by simp; omega
        have b0 : ((x : Int) < 97) := by omega
        have a1 : decide ((122 : Int) < x) = false := by simp; omega
        have b1 : ¬ ((122 : Int) < x) := by omega
        have a2 : decide ((x : Int) < 48) = false := by simp; omega
        have b2 : ¬ ((x : Int) < 48) := by omega
        have a3 : decide ((57 : Int) < x) = true := by simp; omega
        have b3 : ((57 : Int) < x) := by omega
        have hq : (x != 45) = true := by simp; omega
        clear hc e hlt
        go_wp2_with fail
        go_ret
        exact ⟨by rw [HNO.out HE.out]; rfl, rfl⟩
      · have e : okc x = true := by simp [okc]; omega
        have HE := WirS.hide e
        have a0 : decide ((x : Int) < 97) = false := by simp; omega
        have b0 : ¬ ((x : Int) < 97) := by omega
        have a1 : decide ((122 : Int) < x) = false := by simp; omega
        have b1 : ¬ ((122 : Int) < x) := by omega
        have a2 : decide ((x : Int) < 48) = false := by simp; omega
        have b2 : ¬ ((x : Int) < 48) := by omega
        have a3 : decide ((57 : Int) < x) = true := by simp; omega
        have b3 : ((57 : Int) < x) := by omega
        have hq : (x != 45) = true := by simp; omega
        clear hc e hlt
        go_wp2_with fail
        go_round
        case rel => exact ⟨k + 1, by have := HLT.out; omega, by go_num, HYES.out HE.out⟩
        case measure => have := HLT.out; simp [intOf]; omega
      · have e : okc x = false := by simp [okc]; omega
        have HE := WirS.hide e
        have a0 : decide ((x : Int) < 97) = false := by simp; omega
        have b0 : ¬ ((x : Int) < 97) := by omega
        have a1 : decide ((122 : Int) < x) = true := by simp; omega
        have b1 : ((122 : Int) < x) := by omega
        have a2 : decide ((x : Int) < 48) = false := by simp; omega
        have b2 : ¬ ((x : Int) < 48) := by omega
        have a3 : decide ((57 : Int) < x) = true := by simp; omega
        have b3 : ((57 : Int) < x) := by omega
        have hq : (x != 45) = true := by simp; omega
        clear hc e hlt
        go_wp2_with fail
        go_ret
        exact ⟨by rw [HNO.out HE.out]; rfl, rfl⟩
    · obtain rfl : k = s.size := by omega
      have hal : allc s = true := by
        unfold allc
        exact decide_eq_true HOK.out
      have hr : res = (decide (0 < s.size) && decide (s.size ≤ 32)) := by
        rw [← HRES.out]
        simp [nameB, hal]
      clear hal
      by_cases h1 : 1 ≤ s.size
      · have g1 : (1 : Int) ≤ (s.size : Int) := by omega
        have g1' : decide ((1 : Int) ≤ (s.size : Int)) = true := by simpa using g1
        by_cases h2 : s.size ≤ 32
        · have g2 : (s.size : Int) ≤ 32 := by omega
          have g2' : decide ((s.size : Int) ≤ 32) = true := by simpa using g2
          obtain rfl : res = true := by rw [hr]; simp; omega
          clear hr h1 h2
          go_wp2_with fail
          go_ret
          exact ⟨rfl, rfl⟩
        · have g2 : ¬ (s.size : Int) ≤ 32 := by omega
          have g2' : decide ((s.size : Int) ≤ 32) = false := by simpa using g2
          obtain rfl : res = false := by rw [hr]; simp; omega
          clear hr h1 h2
          go_wp2_with fail
          go_ret
          exact ⟨rfl, rfl⟩
      · have g1 : ¬ (1 : Int) ≤ (s.size : Int) := by omega
        have g1' : decide ((1 : Int) ≤ (s.size : Int)) = false := by simpa using g1
        obtain rfl : res = false := by rw [hr]; simp; omega
        clear hr h1
        go_wp2_with fail
        go_ret
        exact ⟨rfl, rfl⟩
set_option maxRecDepth 10000 in
set_option maxHeartbeats 4000000 in
theorem rcheck_any (w : World) (t : Hd) (hs : t.ch.size ≤ 1099511627776) : Calls Try.prog 149 #[.agg t.cells.toArray] w fun e w' => e = .returned (.int .i64 (hchk t)) ∧ Below w.heap.size w w' := by
  obtain ⟨W0, e0⟩ : ∃ X, X = w.alloc (.cells t.cells.toArray 94) := ⟨_, rfl⟩
  have hA : At W0 w.heap.size 94 t.cells := by rw [e0]; exact box_at _ _
  have HB := WirS.hide (show Below w.heap.size w W0 by rw [e0]; exact box_below _ _)
  have k0 : W0.cell? ⟨w.heap.size, 0, none⟩ = some (.string t.ch) := (hA.cell 0).trans rfl
  have k1 : W0.cell? ⟨w.heap.size, 1, none⟩ = some (.int .i64 t.ht) := (hA.cell 1).trans rfl
  have k2 : W0.cell? ⟨w.heap.size, 2, none⟩ = some (.int .i64 t.tm) := (hA.cell 2).trans rfl
  have HN := WirS.hide (fun U => rname_any U t.ch hs)
  have E0 := WirS.hide e0
  have HCK := WirS.hide (show hchk t = if nameB t.ch = true then (if 1 ≤ t.ht ∧ t.ht ≤ 1073741824 then (if 0 ≤ t.tm ∧ t.tm ≤ 1099511627776 then 0 else 3) else 3) else 5 by
    unfold hchk c1 c2 c3
    by_cases h1 : nameB t.ch = true <;> by_cases h2 : 1 ≤ t.ht ∧ t.ht ≤ 1073741824 <;> simp [h1, h2])
  generalize hchk t = cd at *
  generalize t.ht = ht at *
  generalize t.tm = tm at *
  have HH : ∀ {R : Prop}, (∀ e, e = cd → R) → R := fun h => h cd rfl
  clear HH
  clear hA e0 hs
  cases hn : nameB t.ch with
  | false =>
    rw [hn] at HN HCK
    obtain rfl : cd = 5 := by rw [HCK.out]; rfl
    clear hn HCK
    generalize t.ch = ch at *
    go_enter Try.func149, Try.ntmps149
    go_upto_region 1 with fail
    rw [show w.alloc (.cells t.cells.toArray 94) = W0 from E0.out.symm]
    clear E0
    go_wp2_with (go_at_call 184; with_reducible refine (HN.out _).mono ?_; rintro e _ ⟨rfl, rfl⟩)
    go_ret
    exact ⟨rfl, HB.out⟩
  | true =>
    rw [hn, if_pos rfl] at HCK
    rw [hn] at HN
    clear hn
    generalize t.ch = ch at *
    obtain hc | hc | hc | hc | hc : (ht < 1) ∨ (1073741824 < ht) ∨ ((1 ≤ ht ∧ ht ≤ 1073741824) ∧ tm < 0) ∨ ((1 ≤ ht ∧ ht ≤ 1073741824) ∧ 1099511627776 < tm) ∨ ((1 ≤ ht ∧ ht ≤ 1073741824) ∧ (0 ≤ tm ∧ tm ≤ 1099511627776)) := by omega
    · obtain rfl : cd = 3 := by rw [HCK.out, if_neg (by omega)]
      have a0 : decide (ht < 1) = true := by simp; omega
      have b0 : (ht < 1) := by omega
      clear hc HCK
      go_enter Try.func149, Try.ntmps149
      go_upto_region 1 with fail
      rw [show w.alloc (.cells t.cells.toArray 94) = W0 from E0.out.symm]
      clear E0
      go_wp2_with (go_at_call 184; with_reducible refine (HN.out _).mono ?_; rintro e _ ⟨rfl, rfl⟩)
      go_ret
      exact ⟨rfl, HB.out⟩
    · obtain rfl : cd = 3 := by rw [HCK.out, if_neg (by omega)]
      have a0 : decide (ht < 1) = false := by simp; omega
      have b0 : ¬ (ht < 1) := by omega
      have a1 : decide (1073741824 < ht) = true := by simp; omega
      have b1 : (1073741824 < ht) := by omega
      clear hc HCK
      go_enter Try.func149, Try.ntmps149
      go_upto_region 1 with fail
      rw [show w.alloc (.cells t.cells.toArray 94) = W0 from E0.out.symm]
      clear E0
      go_wp2_with (go_at_call 184; with_reducible refine (HN.out _).mono ?_; rintro e _ ⟨rfl, rfl⟩)
      go_ret
      exact ⟨rfl, HB.out⟩
    · obtain rfl : cd = 3 := by rw [HCK.out, if_pos hc.1, if_neg (by omega)]
      have a0 : decide (ht < 1) = false := by simp; omega
      have b0 : ¬ (ht < 1) := by omega
      have a1 : decide (1073741824 < ht) = false := by simp; omega
      have b1 : ¬ (1073741824 < ht) := by omega
      have a2 : decide (tm < 0) = true := by simp; omega
      have b2 : (tm < 0) := by omega
      clear hc HCK
      go_enter Try.func149, Try.ntmps149
      go_upto_region 1 with fail
      rw [show w.alloc (.cells t.cells.toArray 94) = W0 from E0.out.symm]
      clear E0
      go_wp2_with (go_at_call 184; with_reducible refine (HN.out _).mono ?_; rintro e _ ⟨rfl, rfl⟩)
      go_ret
      exact ⟨rfl, HB.out⟩
    · obtain rfl : cd = 3 := by rw [HCK.out, if_pos hc.1, if_neg (by omega)]
      have a0 : decide (ht < 1) = false := by simp; omega
      have b0 : ¬ (ht < 1) := by omega
      have a1 : decide (1073741824 < ht) = false := by simp; omega
      have b1 : ¬ (1073741824 < ht) := by omega
      have a2 : decide (tm < 0) = false := by simp; omega
      have b2 : ¬ (tm < 0) := by omega
      have a3 : decide (1099511627776 < tm) = true := by simp; omega
      have b3 : (1099511627776 < tm) := by omega
      clear hc HCK
      go_enter Try.func149, Try.ntmps149
      go_upto_region 1 with fail
      rw [show w.alloc (.cells t.cells.toArray 94) = W0 from E0.out.symm]
      clear E0
      go_wp2_with (go_at_call 184; with_reducible refine (HN.out _).mono ?_; rintro e _ ⟨rfl, rfl⟩)
      go_ret
      exact ⟨rfl, HB.out⟩
    · obtain rfl : cd = 0 := by rw [HCK.out, if_pos hc.1, if_pos hc.2]
      have a0 : decide (ht < 1) = false := by simp; omega
      have b0 : ¬ (ht < 1) := by omega
      have a1 : decide (1073741824 < ht) = false := by simp; omega
      have b1 : ¬ (1073741824 < ht) := by omega
      have a2 : decide (tm < 0) = false := by simp; omega
      have b2 : ¬ (tm < 0) := by omega
      have a3 : decide (1099511627776 < tm) = false := by simp; omega
      have b3 : ¬ (1099511627776 < tm) := by omega
      clear hc HCK
      go_enter Try.func149, Try.ntmps149
      go_upto_region 1 with fail
      rw [show w.alloc (.cells t.cells.toArray 94) = W0 from E0.out.symm]
      clear E0
      go_wp2_with (go_at_call 184; with_reducible refine (HN.out _).mono ?_; rintro e _ ⟨rfl, rfl⟩)
      go_ret
      exact ⟨rfl, HB.out⟩
end HdL
end Go.Proofs.Ythhnojnpjbklpaa

namespace Go.Proofs.Ythhnojnpjbklpaa
namespace HdM
open Go.RowKit
open BlkM WirM WirS HdA HdB HdC HdE HdF HdG HdL
open WirJ (st sizedO)
open WirP (aggB)
open WirX (Thg Bag)
open WirAA (box bag_box bag_sets bag_set)
open WirAB (turn3 there_at)
open WirRT (rng)
open ValSA ValSC ValK ValSK ValSM ValSN

theorem pick2 {w0 w : World} {o1 o2 o3 : Thg} {l : List Thg} (h : Bag w0 w (o1 :: o2 :: o3 :: l)) : Bag w0 w (o2 :: l) := h.drop.swap.drop
theorem end_zero {w : World} {R : Nat} {a : Option Addr} {c : Nat} {bs : List Int} {s : St} (h : RS w R a c bs s) (h0 : (endS bs s).1 = 0) : (endS bs s).2 = 0 := by
  cases s with
  | inl f => exact absurd h0 h.1
  | inr p =>
    have e : endS bs (.inr p) = if p < bs.length then (4, (p : Int)) else (0, 0) := rfl
    rw [e] at h0 ⊢
    by_cases hp : p < bs.length
    · rw [if_pos hp] at h0
      cases h0
    · rw [if_neg hp]
set_option maxRecDepth 20000 in
set_option maxHeartbeats 16000000 in
theorem get_any (w U : World) (l : List Thg) (R : Nat) (a : Option Addr) (c : Nat) (bs : List Int) (hr : rng bs) (hs : bs.length ≤ 1099511627776) (h : Bag w U (rfS R a c bs (.inr 0) :: l)) :
    Calls Try.prog 148 #[.pointer (some ⟨R, 0, none⟩)] U fun e w' => e = .returned (.agg (hK bs 4).cells.toArray) ∧ Bag w w' (rfS R a c bs (sH bs 4) :: l) := by
  obtain ⟨A0, eA0⟩ : ∃ A, U.heap.size = A := ⟨_, rfl⟩
  obtain ⟨W1, e1⟩ : ∃ X, X = U.alloc (.cells hd0.cells.toArray 94) := ⟨_, rfl⟩
  obtain ⟨X, eX⟩ : ∃ A, W1.heap.size = A := ⟨_, rfl⟩
  obtain ⟨W2, e2⟩ : ∃ X, X = W1.alloc (.cells hd0.cells.toArray 94) := ⟨_, rfl⟩
  have hb1 : Bag w W1 (box HT A0 hd0.cells :: rfS R a c bs (.inr 0) :: l) := bag_box h eA0.symm (by rw [e1, ← eA0]; exact At.new _ _ _) (by rw [e1]; exact Below.alloc (Below.refl _ _) (Nat.le_refl _) _)
  have hb2 : Bag w W2 (box HT X hd0.cells :: box HT A0 hd0.cells :: rfS R a c bs (.inr 0) :: l) := bag_box hb1 eX.symm (by rw [e2, ← eX]; exact At.new _ _ _) (by rw [e2]; exact Below.alloc (Below.refl _ _) (Nat.le_refl _) _)
  have H0 := WirS.hide (turn3 hb2)
  have E1 := WirS.hide e1
  have E2 := WirS.hide e2
  have HR := WirS.hide hr
  have HS := WirS.hide hs
  clear h hb1 hb2 e1 e2 hr hs
  go_enter Try.func148, Try.ntmps148
  go_upto_region 0 with fail
  refine wp_region_lit ?_
  refine sV (.pointer (some ⟨U.heap.size, 0, none⟩)) (U.alloc (.cells hd0.cells.toArray 94)) (by kernel_rfl) (al_hd _ _ (by rfl) U) ?_
  simp only [Act.put, List.setIfInBounds_toArray, List.set_cons_succ, List.set_cons_zero]
  rw [← E1.out, eA0]
  go_upto_region 1 with fail
  refine wp_region_lit ?_
  refine sV (.pointer (some ⟨W1.heap.size, 0, none⟩)) (W1.alloc (.cells hd0.cells.toArray 94)) (by kernel_rfl) (al_hd _ _ (by rfl) W1) ?_
  simp only [Act.put, List.setIfInBounds_toArray, List.set_cons_succ, List.set_cons_zero]
  rw [← E2.out, eX]
  clear E1 E2 eA0 eX
  go_upto_region 2 with fail
  refine wp_region_lit ?_
  refine sV (.pointer (some ⟨R, 0, none⟩)) (W2) (by kernel_rfl) (by kernel_rfl) ?_
  simp only [Act.put, List.setIfInBounds_toArray, List.set_cons_succ, List.set_cons_zero]
  refine sC (R := fun w' => Bag w w' (rfS R a c bs (s1 bs) :: box HT A0 hd0.cells :: box HT X hd0.cells :: l)) (v := .string (st (rT bs (.inr 0)).1)) (by kernel_rfl) (by kernel_rfl) (x_act H0.out (ValSL.rs_text _ R a c bs (.inr 0) 32 (by omega) (by omega) H0.out.head HS.out HR.out)) ?_
  rintro y0 hb
  simp only [Act.put, List.setIfInBounds_toArray, List.set_cons_succ, List.set_cons_zero]
  have c0 : y0.cell? ⟨X, 0, none⟩ = some (.string ⟨#[]⟩) := (turn3 hb).head.cell 0
  have f0 : y0.frozen? ⟨X, 0, none⟩ = false := At.frozen (turn3 hb).head 0
  have H1 := WirS.hide (show Bag w (y0.setCell ⟨X, 0, none⟩ (.string (st (rT bs (.inr 0)).1))) (rfS R a c bs (s1 bs) :: box HT A0 hd0.cells :: box HT X (⟨st (rT bs (.inr 0)).1, 0, 0, WirN.zz 128, zz_len 128⟩ : Hd).cells :: l) from turn3 (bag_set (turn3 hb) 0 (.string (st (rT bs (.inr 0)).1))))
  clear hb H0
  go_upto_region 3 with fail
  clear c0 f0
  generalize World.setCell y0 _ _ = x1 at *
  go_upto_region 3 with fail
  refine wp_region_lit ?_
  refine sV (.pointer (some ⟨R, 0, none⟩)) (x1) (by kernel_rfl) (by kernel_rfl) ?_
  simp only [Act.put, List.setIfInBounds_toArray, List.set_cons_succ, List.set_cons_zero]
  refine sC (R := fun w' => Bag w w' (rfS R a c bs (s2 bs) :: box HT A0 hd0.cells :: box HT X (⟨st (rT bs (.inr 0)).1, 0, 0, WirN.zz 128, zz_len 128⟩ : Hd).cells :: l)) (v := .int .i64 (rN bs (s1 bs)).1) (by kernel_rfl) (by kernel_rfl) (x_act H1.out (rs_num _ R a c bs (s1 bs) H1.out.head HS.out HR.out)) ?_
  rintro y1 hb
  simp only [Act.put, List.setIfInBounds_toArray, List.set_cons_succ, List.set_cons_zero]
  have c0 : y1.cell? ⟨X, 1, none⟩ = some (.int .i64 0) := (turn3 hb).head.cell 1
  have f0 : y1.frozen? ⟨X, 1, none⟩ = false := At.frozen (turn3 hb).head 1
  have H2 := WirS.hide (show Bag w (y1.setCell ⟨X, 1, none⟩ (.int .i64 (rN bs (s1 bs)).1)) (rfS R a c bs (s2 bs) :: box HT A0 hd0.cells :: box HT X (⟨st (rT bs (.inr 0)).1, (rN bs (s1 bs)).1, 0, WirN.zz 128, zz_len 128⟩ : Hd).cells :: l) from turn3 (bag_set (turn3 hb) 1 (.int .i64 (rN bs (s1 bs)).1)))
  clear hb H1
  go_upto_region 4 with fail
  clear c0 f0
  generalize World.setCell y1 _ _ = x2 at *
  go_upto_region 4 with fail
  refine wp_region_lit ?_
  refine sV (.pointer (some ⟨R, 0, none⟩)) (x2) (by kernel_rfl) (by kernel_rfl) ?_
  simp only [Act.put, List.setIfInBounds_toArray, List.set_cons_succ, List.set_cons_zero]
  refine sC (R := fun w' => Bag w w' (rfS R a c bs (sH bs 0) :: box HT A0 hd0.cells :: box HT X (⟨st (rT bs (.inr 0)).1, (rN bs (s1 bs)).1, 0, WirN.zz 128, zz_len 128⟩ : Hd).cells :: l)) (v := .int .i64 (rN bs (s2 bs)).1) (by kernel_rfl) (by kernel_rfl) (x_act H2.out (rs_num _ R a c bs (s2 bs) H2.out.head HS.out HR.out)) ?_
  rintro y2 hb
  simp only [Act.put, List.setIfInBounds_toArray, List.set_cons_succ, List.set_cons_zero]
  have c0 : y2.cell? ⟨X, 2, none⟩ = some (.int .i64 0) := (turn3 hb).head.cell 2
  have f0 : y2.frozen? ⟨X, 2, none⟩ = false := At.frozen (turn3 hb).head 2
  have H3 := WirS.hide (show Bag w (y2.setCell ⟨X, 2, none⟩ (.int .i64 (rN bs (s2 bs)).1)) (rfS R a c bs (sH bs 0) :: box HT A0 hd0.cells :: box HT X (hK bs 0).cells :: l) from turn3 (bag_set (turn3 hb) 2 (.int .i64 (rN bs (s2 bs)).1)))
  clear hb H2
  go_upto_region 5 with fail
  clear c0 f0
  generalize World.setCell y2 _ _ = x3 at *
  go_upto_region 5 with fail
  refine wp_region_lit ?_
  refine sV (.pointer (some ⟨R, 0, none⟩)) (x3) (by kernel_rfl) (by kernel_rfl) ?_
  simp only [Act.put, List.setIfInBounds_toArray, List.set_cons_succ, List.set_cons_zero]
  refine sC (R := fun w' => Bag w w' (rfS R a c bs (sH bs (0 + 1)) :: box HT A0 hd0.cells :: box HT X (hK bs 0).cells :: l)) (v := aggB (rH bs (sH bs 0)).1) (by kernel_rfl) (by kernel_rfl) (x_act H3.out (rs_hash _ R a c bs (sH bs 0) H3.out.head HS.out)) ?_
  rintro z0 hb
  simp only [Act.put, List.setIfInBounds_toArray, List.set_cons_succ, List.set_cons_zero]
  refine sV (.pointer (some ⟨X, 3, none⟩)) (z0) (by kernel_rfl) (by kernel_rfl) ?_
  simp only [Act.put, List.setIfInBounds_toArray, List.set_cons_succ, List.set_cons_zero]
  refine wpList_store_mid (by rfl) _ _ _ (by rfl) X 3 (b8 (rH bs (sH bs 0)).1).toArray (by kernel_rfl) (by kernel_rfl) (there_at (turn3 hb).head 3 _ (by rw [List.size_toArray, b8_len, rH_len, (hK bs 0).len]; decide)) (by rw [List.size_toArray, b8_len, rH_len]; kernel_rfl) (all_oneCell_toArray (one_b8 _)) ?_
  simp only [Act.put]
  have H4 := WirS.hide (show Bag w (z0.setCells X 3 (b8 (rH bs (sH bs 0)).1).toArray.toList) (rfS R a c bs (sH bs 1) :: box HT A0 hd0.cells :: box HT X (hK bs 1).cells :: l) from turn3 (bag_put (turn3 hb) 0 (rH bs (sH bs 0)).1 (by decide) (rH_len _ _)))
  clear hb H3
  generalize World.setCells z0 X 3 _ = v1 at *
  go_upto_region 6 with fail
  refine wp_region_lit ?_
  refine sV (.pointer (some ⟨R, 0, none⟩)) (v1) (by kernel_rfl) (by kernel_rfl) ?_
  simp only [Act.put, List.setIfInBounds_toArray, List.set_cons_succ, List.set_cons_zero]
  refine sC (R := fun w' => Bag w w' (rfS R a c bs (sH bs (1 + 1)) :: box HT A0 hd0.cells :: box HT X (hK bs 1).cells :: l)) (v := aggB (rH bs (sH bs 1)).1) (by kernel_rfl) (by kernel_rfl) (x_act H4.out (rs_hash _ R a c bs (sH bs 1) H4.out.head HS.out)) ?_
  rintro z1 hb
  simp only [Act.put, List.setIfInBounds_toArray, List.set_cons_succ, List.set_cons_zero]
  refine sV (.pointer (some ⟨X, 35, none⟩)) (z1) (by kernel_rfl) (by kernel_rfl) ?_
  simp only [Act.put, List.setIfInBounds_toArray, List.set_cons_succ, List.set_cons_zero]
  refine wpList_store_mid (by rfl) _ _ _ (by rfl) X 35 (b8 (rH bs (sH bs 1)).1).toArray (by kernel_rfl) (by kernel_rfl) (there_at (turn3 hb).head 35 _ (by rw [List.size_toArray, b8_len, rH_len, (hK bs 1).len]; decide)) (by rw [List.size_toArray, b8_len, rH_len]; kernel_rfl) (all_oneCell_toArray (one_b8 _)) ?_
  simp only [Act.put]
  have H5 := WirS.hide (show Bag w (z1.setCells X 35 (b8 (rH bs (sH bs 1)).1).toArray.toList) (rfS R a c bs (sH bs 2) :: box HT A0 hd0.cells :: box HT X (hK bs 2).cells :: l) from turn3 (bag_put (turn3 hb) 1 (rH bs (sH bs 1)).1 (by decide) (rH_len _ _)))
  clear hb H4
  generalize World.setCells z1 X 35 _ = v2 at *
  go_upto_region 7 with fail
  refine wp_region_lit ?_
  refine sV (.pointer (some ⟨R, 0, none⟩)) (v2) (by kernel_rfl) (by kernel_rfl) ?_
  simp only [Act.put, List.setIfInBounds_toArray, List.set_cons_succ, List.set_cons_zero]
  refine sC (R := fun w' => Bag w w' (rfS R a c bs (sH bs (2 + 1)) :: box HT A0 hd0.cells :: box HT X (hK bs 2).cells :: l)) (v := aggB (rH bs (sH bs 2)).1) (by kernel_rfl) (by kernel_rfl) (x_act H5.out (rs_hash _ R a c bs (sH bs 2) H5.out.head HS.out)) ?_
  rintro z2 hb
  simp only [Act.put, List.setIfInBounds_toArray, List.set_cons_succ, List.set_cons_zero]
  refine sV (.pointer (some ⟨X, 67, none⟩)) (z2) (by kernel_rfl) (by kernel_rfl) ?_
  simp only [Act.put, List.setIfInBounds_toArray, List.set_cons_succ, List.set_cons_zero]
  refine wpList_store_mid (by rfl) _ _ _ (by rfl) X 67 (b8 (rH bs (sH bs 2)).1).toArray (by kernel_rfl) (by kernel_rfl) (there_at (turn3 hb).head 67 _ (by rw [List.size_toArray, b8_len, rH_len, (hK bs 2).len]; decide)) (by rw [List.size_toArray, b8_len, rH_len]; kernel_rfl) (all_oneCell_toArray (one_b8 _)) ?_
  simp only [Act.put]
  have H6 := WirS.hide (show Bag w (z2.setCells X 67 (b8 (rH bs (sH bs 2)).1).toArray.toList) (rfS R a c bs (sH bs 3) :: box HT A0 hd0.cells :: box HT X (hK bs 3).cells :: l) from turn3 (bag_put (turn3 hb) 2 (rH bs (sH bs 2)).1 (by decide) (rH_len _ _)))
  clear hb H5
  generalize World.setCells z2 X 67 _ = v3 at *
  go_upto_region 8 with fail
  refine wp_region_lit ?_
  refine sV (.pointer (some ⟨R, 0, none⟩)) (v3) (by kernel_rfl) (by kernel_rfl) ?_
  simp only [Act.put, List.setIfInBounds_toArray, List.set_cons_succ, List.set_cons_zero]
  refine sC (R := fun w' => Bag w w' (rfS R a c bs (sH bs (3 + 1)) :: box HT A0 hd0.cells :: box HT X (hK bs 3).cells :: l)) (v := aggB (rH bs (sH bs 3)).1) (by kernel_rfl) (by kernel_rfl) (x_act H6.out (rs_hash _ R a c bs (sH bs 3) H6.out.head HS.out)) ?_
  rintro z3 hb
  simp only [Act.put, List.setIfInBounds_toArray, List.set_cons_succ, List.set_cons_zero]
  refine sV (.pointer (some ⟨X, 99, none⟩)) (z3) (by kernel_rfl) (by kernel_rfl) ?_
  simp only [Act.put, List.setIfInBounds_toArray, List.set_cons_succ, List.set_cons_zero]
  refine wpList_store_mid (by rfl) _ _ _ (by rfl) X 99 (b8 (rH bs (sH bs 3)).1).toArray (by kernel_rfl) (by kernel_rfl) (there_at (turn3 hb).head 99 _ (by rw [List.size_toArray, b8_len, rH_len, (hK bs 3).len]; decide)) (by rw [List.size_toArray, b8_len, rH_len]; kernel_rfl) (all_oneCell_toArray (one_b8 _)) ?_
  simp only [Act.put]
  have H7 := WirS.hide (show Bag w (z3.setCells X 99 (b8 (rH bs (sH bs 3)).1).toArray.toList) (rfS R a c bs (sH bs 4) :: box HT A0 hd0.cells :: box HT X (hK bs 4).cells :: l) from turn3 (bag_put (turn3 hb) 3 (rH bs (sH bs 3)).1 (by decide) (rH_len _ _)))
  clear hb H6
  generalize World.setCells z3 X 99 _ = v4 at *
  go_upto_region 9 with fail
  refine wp_region_lit ?_
  refine sL (by kernel_rfl) _ _ (by rfl) _ (by kernel_rfl) (turn3 H7.out).head _ _ Try.underlying94 rfl (by kernel_rfl) (hK bs 4).len ?_
  simp only [Act.put, List.setIfInBounds_toArray, List.set_cons_succ, List.set_cons_zero]
  have hb := bag_row H7.out.swap (hK bs 4).cells
  refine stepStore (by rfl) _ _ _ (by rfl) A0 (hK bs 4).cells (by kernel_rfl) (by kernel_rfl) H7.out.swap.head 131 (by kernel_rfl) hd0.len (hK bs 4).len (one_cells _) ?_
  simp only [Act.put]
  have H8 := WirS.hide hb
  clear hb H7
  go_wp2_with fail
  refine bodyPost_ret (retRow H8.out.head Try.results148 _ (by rfl) _ 131 Try.underlying94 rfl (by kernel_rfl) (hK bs 4).len) rfl ?_
  exact ⟨rfl, pick2 H8.out⟩
/-- Four objects in another order. -/
theorem ordA {w0 w : World} {f x a h : Thg} (H : Bag w0 w [f, x, a, h]) : Bag w0 w [h, f, a, x] := H.perm (by
  refine ((List.Perm.cons f ((List.Perm.swap a x [h]).trans ((List.Perm.cons a (List.Perm.swap h x [])).trans (List.Perm.swap h a [x])))).trans (List.Perm.swap h f [a, x])))
theorem range0 {w : World} {X : Nat} {T : TypeId} {cs : List Value} (h : At w X T cs) : w.rangeAt X 0 cs := fun j v hj => by
  rw [Nat.zero_add, h.cell]
  exact hj
theorem last4 {w0 w : World} {o1 o2 o3 o4 : Thg} {l : List Thg} (h : Bag w0 w (o1 :: o2 :: o3 :: o4 :: l)) : Bag w0 w (o4 :: o1 :: o2 :: o3 :: l) :=
  h.perm ((List.Perm.cons _ ((List.Perm.cons _ (.swap _ _ _)).trans (.swap _ _ _))).trans (.swap _ _ _))
set_option maxRecDepth 20000 in
set_option maxHeartbeats 16000000 in
theorem rdecode_any (w : World) (b : Option Addr) (n c : Nat) (bs : List Int) (hb : BIn w (.slice b n c) bs) (hr : rng bs) (hn : n ≤ 1099511627776) :
    Calls Try.prog 62 #[.slice b n c] w (HDec w (hdec bs)) := by
  obtain ⟨A0, eA0⟩ : ∃ A, w.heap.size = A := ⟨_, rfl⟩
  obtain ⟨W1, e1⟩ : ∃ X, X = w.alloc (.cells hd0.cells.toArray 94) := ⟨_, rfl⟩
  obtain ⟨A1, eA1⟩ : ∃ A, W1.heap.size = A := ⟨_, rfl⟩
  obtain ⟨W2, e2⟩ : ∃ X, X = W1.alloc (.cells (f2 0 0).toArray 55) := ⟨_, rfl⟩
  have hb1 : Bag w W1 [box HT A0 hd0.cells] := bag_box (Bag.nil (Below.refl _ _)) eA0.symm (by rw [e1, ← eA0]; exact At.new _ _ _) (by rw [e1]; exact Below.alloc (Below.refl _ _) (Nat.le_refl _) _)
  have hb2 : Bag w W2 [box FT A1 (f2 0 0), box HT A0 hd0.cells] := bag_box hb1 eA1.symm (by rw [e2, ← eA1]; exact At.new _ _ _) (by rw [e2]; exact Below.alloc (Below.refl _ _) (Nat.le_refl _) _)
  have HRD := WirS.hide (newr_any W2 b n c bs (hb.below hb2.low) hn)
  have H2 := WirS.hide hb2
  have HBL := WirS.hide (show bs.length ≤ 1099511627776 by obtain ⟨_, _, e, _⟩ := hb; cases e; omega)
  have HRG := WirS.hide hr
  have E1 := WirS.hide e1
  have E2 := WirS.hide e2
  obtain ⟨D, hD⟩ : ∃ D, hdec bs = D := ⟨_, rfl⟩
  have HDD := WirS.hide hD
  rw [hD]
  clear hb hr hn hb1 hb2 e1 e2 hD
  go_enter Try.func62, Try.ntmps62
  go_upto_region 0 with fail
  refine wp_region_lit ?_
  refine sV (.pointer (some ⟨w.heap.size, 0, none⟩)) (w.alloc (.cells hd0.cells.toArray 94)) (by kernel_rfl) (al_hd _ _ (by rfl) w) ?_
  simp only [Act.put, List.setIfInBounds_toArray, List.set_cons_succ, List.set_cons_zero]
  rw [← E1.out, eA0]
  refine sV (.pointer (some ⟨W1.heap.size, 0, none⟩)) (W1.alloc (.cells (f2 0 0).toArray 55)) (by kernel_rfl) (by kernel_rfl) ?_
  simp only [Act.put, List.setIfInBounds_toArray, List.set_cons_succ, List.set_cons_zero]
  rw [← E2.out, eA1]
  clear E1 E2 eA0 eA1
  go_upto_region 2 with ((go_at_call 29; refine (HRD.out).mono ?_; rintro e u2 ⟨R, ra, rc, rfl, hR, hs, hnw, hb2⟩; have H3 := WirS.hide (ValSP.bag_rfS H2.out hR hs hnw hb2); clear hR hs hnw hb2 H2 HRD))
  refine wp_region_lit ?_
  refine sV (.pointer (some ⟨R, 0, none⟩)) (u2) (by kernel_rfl) (by kernel_rfl) ?_
  simp only [Act.put, List.setIfInBounds_toArray, List.set_cons_succ, List.set_cons_zero]
  refine sC (by kernel_rfl) (by kernel_rfl) (get_any w u2 _ R ra rc bs HRG.out HBL.out H3.out) ?_
  rintro u5 hb5
  simp only [Act.put, List.setIfInBounds_toArray, List.set_cons_succ, List.set_cons_zero]
  have H6 := WirS.hide hb5
  clear hb5 H3
  obtain ⟨T, hT⟩ : ∃ T, hK bs 4 = T := ⟨_, rfl⟩
  rw [hT]
  have HTT := WirS.hide hT
  refine sV (.pointer (some ⟨u5.heap.size, 0, none⟩)) (u5.alloc (.cells hd0.cells.toArray 94)) (by kernel_rfl) (al_hd _ _ (by rfl) u5) ?_
  simp only [Act.put, List.setIfInBounds_toArray, List.set_cons_succ, List.set_cons_zero]
  obtain ⟨X, eX⟩ : ∃ X, u5.heap.size = X := ⟨_, rfl⟩
  have hb6 := bag_box (T := HT) (cs := hd0.cells) (X := X) H6.out eX.symm (w' := u5.alloc (.cells hd0.cells.toArray 94)) (by rw [← eX]; exact At.new _ _ _) (Below.alloc (Below.refl _ _) (Nat.le_refl _) _)
  rw [eX]
  clear eX H6 hT
  generalize World.alloc u5 _ = u6 at *
  refine stepStore (by rfl) _ _ _ (by rfl) X T.cells (by kernel_rfl) (by kernel_rfl) hb6.head 131 (by kernel_rfl) hd0.len T.len (one_cells _) ?_
  simp only [Act.put]
  have H4 := WirS.hide (bag_row hb6 T.cells).swap
  clear hb6
  generalize World.setRow u6 X _ = u7 at *
  obtain ⟨fe, fa, he⟩ : ∃ fe fa, endS bs (sH bs 4) = (fe, fa) := ⟨_, _, rfl⟩
  obtain ⟨cd, hcd⟩ : ∃ cd, hchk T = cd := ⟨_, rfl⟩
  have HDE := WirS.hide (show D = if fe ≠ 0 then ((fe, fa), hd0) else if cd ≠ 0 then ((cd, 0), hd0) else ((0, 0), T) by
    rw [← HDD.out]
    unfold hdec
    rw [he, HTT.out, hcd])
  have HCK := WirS.hide (fun U => rcheck_any U T (by rw [← HTT.out, hK_ch, WirNA.st_size]; have h1 : (rT bs (.inr 0)).1.length ≤ bs.length := ValSO.rO_len 32 bs (.inr 0); have := HBL.out; omega))
  rw [hcd] at HCK
  have HZ := WirS.hide (fun h0 : fe = 0 => show fa = 0 by have := end_zero H4.out.head (by rw [he]; exact h0); rw [he] at this; exact this)
  have HE := WirS.hide (x_end H4.out)
  rw [he] at HE
  clear he hcd HDD HTT
  go_upto_region 4 with ((go_at_call 34; refine (HE.out).mono ?_; rintro e z1 ⟨rfl, hb⟩; have H5 := WirS.hide hb; clear hb HE))
  obtain ⟨F, eF⟩ : ∃ F, z1.heap.size = F := ⟨_, rfl⟩
  obtain ⟨z2, e5⟩ : ∃ Y, Y = z1.alloc (.cells #[.int .i64 fe, .int .i64 fa] 55) := ⟨_, rfl⟩
  have hb5 := bag_box (T := FT) (cs := f2 fe fa) H5.out eF.symm (w' := z2) (by rw [e5, ← eF]; exact At.new _ _ _) (by rw [e5]; exact Below.alloc (Below.refl _ _) (Nat.le_refl _) _)
  rw [← e5, eF]
  clear eF e5 H5 H4
  have d0 : z2.cell? ⟨F, 0, none⟩ = some (.int .i64 fe) := hb5.head.cell 0
  have d1 : z2.cell? ⟨F, 1, none⟩ = some (.int .i64 fa) := hb5.head.cell 1
  have H6 : Hid (Bag w z2 [box FT F (f2 fe fa), box HT X T.cells, box FT A1 (f2 0 0), box HT A0 hd0.cells]) := WirS.hide hb5.swap.drop
  clear hb5
  by_cases hfe : fe = 0
  · obtain rfl : fa = 0 := HZ.out hfe
    subst hfe
    go_upto_region 5 with fail
    refine wp_region_lit ?_
    refine sL (by kernel_rfl) _ _ (by rfl) _ (by kernel_rfl) H6.out.swap.head _ _ Try.underlying94 rfl (by kernel_rfl) T.len ?_
    simp only [Act.put, List.setIfInBounds_toArray, List.set_cons_succ, List.set_cons_zero]
    refine sC (R := fun w' => Below z2.heap.size z2 w') (by kernel_rfl) (by kernel_rfl) (HCK.out z2) ?_
    rintro z3 hb
    simp only [Act.put, List.setIfInBounds_toArray, List.set_cons_succ, List.set_cons_zero]
    have hbx := H6.out.more hb
    have d0 : z3.cell? ⟨F, 0, none⟩ = some (.int .i64 0) := hbx.head.cell 0
    have f0 : z3.frozen? ⟨F, 0, none⟩ = false := At.frozen hbx.head 0
    have H7a := WirS.hide (show Bag w (z3.setCell ⟨F, 0, none⟩ (.int .i64 cd)) [box FT F (f2 cd 0), box HT X T.cells, box FT A1 (f2 0 0), box HT A0 hd0.cells] from bag_set hbx 0 (.int .i64 cd))
    clear hb hbx H6 d1
    go_upto_region 6 with fail
    clear d0 f0
    generalize World.setCell z3 _ _ = z4 at *
    have d0 : z4.cell? ⟨F, 0, none⟩ = some (.int .i64 cd) := H7a.out.head.cell 0
    by_cases hc0 : cd = 0
    · subst hc0
      have HDF := WirS.hide (show D = ((0, 0), T) by rw [HDE.out, if_neg (by simp), if_neg (by simp)])
      go_upto_region 8 with fail
      have H7 : Hid (Bag w z4.drew [box HT A0 hd0.cells, box FT F (f2 0 0), box FT A1 (f2 0 0), box HT X T.cells]) := WirS.hide (ordA (H7a.out.more (below_drewN (Below.refl _ _) 1)))
      refine wp_region_noPanic ?_
      refine wp_region_held_drew (S := fun w' => w'.cell? ⟨F, 0, none⟩ = some (.int .i64 0) ∧ w'.cell? ⟨F, 1, none⟩ = some (.int .i64 0) ∧ w'.rangeAt X 0 T.cells) (by kernel_rfl) ⟨(H7.out).swap.head.cell 0, (H7.out).swap.head.cell 1, range0 (last4 (H7.out)).head⟩ (fun hHeld => ?_)
      generalize World.drew z4 = y3 at *
      refine' wpAnyH_take (i := 0) (oi := _) (v := .agg T.cells.toArray) rfl (by kernel_rfl) (by kernel_rfl) (by kernel_rfl) (fun _ _ _ h => h) (yieldsIf_load_mid (by kernel_rfl) 94 (.tmp 5) (by kernel_rfl) X 0 (by kernel_rfl) T.cells _ (fun _ h => h.2.2) Try.underlying94 (by kernel_rfl) (by rw [T.len]; kernel_rfl)) (by assumption) ?rest0
      case rest0 =>
      simp only [List.getElem_toArray, List.getElem_cons_zero, Act.put, List.setIfInBounds_toArray, List.set_cons_succ, List.set_cons_zero]
      refine' wpAnyH_take (i := 1) (oi := _) (v := .agg (f2 0 0).toArray) rfl (by kernel_rfl) (by kernel_rfl) (by kernel_rfl) (fun _ _ _ h => h) (Or.inl ⟨by kernel_rfl, ?hy1⟩) (by assumption) ?rest1
      case hy1 =>
        intro W hS
        obtain ⟨k0, k1, _⟩ := hS
        go_simp
        try rfl
      case rest1 =>
      simp only [List.getElem_toArray, List.getElem_cons_succ, List.getElem_cons_zero, Act.put, List.setIfInBounds_toArray, List.set_cons_succ, List.set_cons_zero]
      refine wpAnyH_ready (rs := [2]) (by kernel_rfl) (by simp) ?_
      refine AllReadyH.cons rfl (fun K hK => ?_) AllReadyH.nil
      rw [if_pos (by kernel_rfl)]
      refine wp_store_row _ _ _ (by rfl) A0 (T).cells.toArray (by kernel_rfl) (by kernel_rfl) HT hd0.cells.toArray H7.out.head (by rw [List.size_toArray, (T).len]; kernel_rfl) (by simp only [List.size_toArray, hd0.len, (T).len]) (one_cells _) ?_
      simp only [Act.put]
      have H8 := WirS.hide (bag_row H7.out (T).cells)
      refine hK.out _ _ ⟨(H8.out).swap.head.cell 0, (H8.out).swap.head.cell 1, range0 (last4 (H8.out)).head⟩ (fun hHeld => ?_)
      clear hK K
      generalize World.setRow y3 A0 _ = y4 at *
      refine wpAnyH_ready (rs := [3]) (by kernel_rfl) (by simp) ?_
      refine AllReadyH.cons rfl (fun K hK => ?_) AllReadyH.nil
      rw [if_pos (by kernel_rfl)]
      refine wp_store_row _ _ _ (by rfl) A1 (f2 0 0).toArray (by kernel_rfl) (by kernel_rfl) FT (f2 0 0).toArray (turn3 H8.out).head (by kernel_rfl) rfl (by kernel_rfl) ?_
      simp only [Act.put]
      have H9 := WirS.hide (turn3 (bag_row (turn3 H8.out) (f2 0 0)))
      refine hK.out _ _ ⟨(H9.out).swap.head.cell 0, (H9.out).swap.head.cell 1, range0 (last4 (H9.out)).head⟩ (fun hHeld => ?_)
      clear hK K
      generalize World.setRow y4 A1 _ = y5 at *
      refine wpAnyH_done (by kernel_rfl) ?_ _
      refine NoPanic.normal ?_
      go_wp2_with fail
      refine bodyPost_ret (retRows H9.out.head (turn3 H9.out).head Try.results62 _ (by rfl) (by rfl) _ _ 131 2 Try.underlying94 rfl (by kernel_rfl) (T).len Try.underlying55 rfl (by kernel_rfl) rfl) rfl ?_
      exact ⟨by rw [HDF.out]; rfl, H9.out.low⟩
    · have n2 : (cd != 0) = true := by simpa using hc0
      have HDF := WirS.hide (show D = ((cd, 0), hd0) by rw [HDE.out, if_neg (by simp), if_pos hc0])
      clear hc0
      go_upto_region 7 with fail
      have H7 : Hid (Bag w z4.drew [box HT A0 hd0.cells, box FT F (f2 cd 0), box FT A1 (f2 0 0), box HT X T.cells]) := WirS.hide (ordA (H7a.out.more (below_drewN (Below.refl _ _) 1)))
      refine wp_region_noPanic ?_
      refine wp_region_held_drew (S := fun w' => w'.cell? ⟨F, 0, none⟩ = some (.int .i64 cd) ∧ w'.cell? ⟨F, 1, none⟩ = some (.int .i64 0) ∧ True) (by kernel_rfl) ⟨(H7.out).swap.head.cell 0, (H7.out).swap.head.cell 1, trivial⟩ (fun hHeld => ?_)
      generalize World.drew z4 = y3 at *
      refine' wpAnyH_take (i := 0) (oi := _) (v := .agg hd0.cells.toArray) rfl (by kernel_rfl) (by kernel_rfl) (by kernel_rfl) (fun _ _ _ h => h) (Or.inl ⟨by kernel_rfl, ?hy0⟩) (by assumption) ?rest0
      case hy0 =>
        intro W _
        kernel_rfl
      case rest0 =>
      simp only [List.getElem_toArray, List.getElem_cons_zero, Act.put, List.setIfInBounds_toArray, List.set_cons_succ, List.set_cons_zero]
      refine' wpAnyH_take (i := 1) (oi := _) (v := .agg (f2 cd 0).toArray) rfl (by kernel_rfl) (by kernel_rfl) (by kernel_rfl) (fun _ _ _ h => h) (Or.inl ⟨by kernel_rfl, ?hy1⟩) (by assumption) ?rest1
      case hy1 =>
        intro W hS
        obtain ⟨k0, k1, _⟩ := hS
        go_simp
        try rfl
      case rest1 =>
      simp only [List.getElem_toArray, List.getElem_cons_succ, List.getElem_cons_zero, Act.put, List.setIfInBounds_toArray, List.set_cons_succ, List.set_cons_zero]
      refine wpAnyH_ready (rs := [2]) (by kernel_rfl) (by simp) ?_
      refine AllReadyH.cons rfl (fun K hK => ?_) AllReadyH.nil
      rw [if_pos (by kernel_rfl)]
      refine wp_store_row _ _ _ (by rfl) A0 (hd0).cells.toArray (by kernel_rfl) (by kernel_rfl) HT hd0.cells.toArray H7.out.head (by rw [List.size_toArray, (hd0).len]; kernel_rfl) (by simp only [List.size_toArray, (hd0).len]) (one_cells _) ?_
      simp only [Act.put]
      have H8 := WirS.hide (bag_row H7.out (hd0).cells)
      refine hK.out _ _ ⟨(H8.out).swap.head.cell 0, (H8.out).swap.head.cell 1, trivial⟩ (fun hHeld => ?_)
      clear hK K
      generalize World.setRow y3 A0 _ = y4 at *
      refine wpAnyH_ready (rs := [3]) (by kernel_rfl) (by simp) ?_
      refine AllReadyH.cons rfl (fun K hK => ?_) AllReadyH.nil
      rw [if_pos (by kernel_rfl)]
      refine wp_store_row _ _ _ (by rfl) A1 (f2 cd 0).toArray (by kernel_rfl) (by kernel_rfl) FT (f2 0 0).toArray (turn3 H8.out).head (by kernel_rfl) rfl (by kernel_rfl) ?_
      simp only [Act.put]
      have H9 := WirS.hide (turn3 (bag_row (turn3 H8.out) (f2 cd 0)))
      refine hK.out _ _ ⟨(H9.out).swap.head.cell 0, (H9.out).swap.head.cell 1, trivial⟩ (fun hHeld => ?_)
      clear hK K
      generalize World.setRow y4 A1 _ = y5 at *
      refine wpAnyH_done (by kernel_rfl) ?_ _
      refine NoPanic.normal ?_
      go_wp2_with fail
      refine bodyPost_ret (retRows H9.out.head (turn3 H9.out).head Try.results62 _ (by rfl) (by rfl) _ _ 131 2 Try.underlying94 rfl (by kernel_rfl) (hd0).len Try.underlying55 rfl (by kernel_rfl) rfl) rfl ?_
      exact ⟨by rw [HDF.out]; rfl, H9.out.low⟩
  · have n1 : (fe == 0) = false := by simpa using hfe
    have n2 : (fe != 0) = true := by simpa using hfe
    have HDF := WirS.hide (show D = ((fe, fa), hd0) by rw [HDE.out, if_pos hfe])
    clear hfe
    go_upto_region 7 with fail
    have H7 : Hid (Bag w z2.drew [box HT A0 hd0.cells, box FT F (f2 fe fa), box FT A1 (f2 0 0), box HT X T.cells]) := WirS.hide (ordA (H6.out.more (below_drewN (Below.refl _ _) 1)))
    refine wp_region_noPanic ?_
    refine wp_region_held_drew (S := fun w' => w'.cell? ⟨F, 0, none⟩ = some (.int .i64 fe) ∧ w'.cell? ⟨F, 1, none⟩ = some (.int .i64 fa) ∧ True) (by kernel_rfl) ⟨(H7.out).swap.head.cell 0, (H7.out).swap.head.cell 1, trivial⟩ (fun hHeld => ?_)
    generalize World.drew z2 = y3 at *
    refine' wpAnyH_take (i := 0) (oi := _) (v := .agg hd0.cells.toArray) rfl (by kernel_rfl) (by kernel_rfl) (by kernel_rfl) (fun _ _ _ h => h) (Or.inl ⟨by kernel_rfl, ?hy0⟩) (by assumption) ?rest0
    case hy0 =>
      intro W _
      kernel_rfl
    case rest0 =>
    simp only [List.getElem_toArray, List.getElem_cons_zero, Act.put, List.setIfInBounds_toArray, List.set_cons_succ, List.set_cons_zero]
    refine' wpAnyH_take (i := 1) (oi := _) (v := .agg (f2 fe fa).toArray) rfl (by kernel_rfl) (by kernel_rfl) (by kernel_rfl) (fun _ _ _ h => h) (Or.inl ⟨by kernel_rfl, ?hy1⟩) (by assumption) ?rest1
    case hy1 =>
      intro W hS
      obtain ⟨k0, k1, _⟩ := hS
      go_simp
      try rfl
    case rest1 =>
    simp only [List.getElem_toArray, List.getElem_cons_succ, List.getElem_cons_zero, Act.put, List.setIfInBounds_toArray, List.set_cons_succ, List.set_cons_zero]
    refine wpAnyH_ready (rs := [2]) (by kernel_rfl) (by simp) ?_
    refine AllReadyH.cons rfl (fun K hK => ?_) AllReadyH.nil
    rw [if_pos (by kernel_rfl)]
    refine wp_store_row _ _ _ (by rfl) A0 (hd0).cells.toArray (by kernel_rfl) (by kernel_rfl) HT hd0.cells.toArray H7.out.head (by rw [List.size_toArray, (hd0).len]; kernel_rfl) (by simp only [List.size_toArray, (hd0).len]) (one_cells _) ?_
    simp only [Act.put]
    have H8 := WirS.hide (bag_row H7.out (hd0).cells)
    refine hK.out _ _ ⟨(H8.out).swap.head.cell 0, (H8.out).swap.head.cell 1, trivial⟩ (fun hHeld => ?_)
    clear hK K
    generalize World.setRow y3 A0 _ = y4 at *
    refine wpAnyH_ready (rs := [3]) (by kernel_rfl) (by simp) ?_
    refine AllReadyH.cons rfl (fun K hK => ?_) AllReadyH.nil
    rw [if_pos (by kernel_rfl)]
    refine wp_store_row _ _ _ (by rfl) A1 (f2 fe fa).toArray (by kernel_rfl) (by kernel_rfl) FT (f2 0 0).toArray (turn3 H8.out).head (by kernel_rfl) rfl (by kernel_rfl) ?_
    simp only [Act.put]
    have H9 := WirS.hide (turn3 (bag_row (turn3 H8.out) (f2 fe fa)))
    refine hK.out _ _ ⟨(H9.out).swap.head.cell 0, (H9.out).swap.head.cell 1, trivial⟩ (fun hHeld => ?_)
    clear hK K
    generalize World.setRow y4 A1 _ = y5 at *
    refine wpAnyH_done (by kernel_rfl) ?_ _
    refine NoPanic.normal ?_
    go_wp2_with fail
    refine bodyPost_ret (retRows H9.out.head (turn3 H9.out).head Try.results62 _ (by rfl) (by rfl) _ _ 131 2 Try.underlying94 rfl (by kernel_rfl) (hd0).len Try.underlying55 rfl (by kernel_rfl) rfl) rfl ?_
    exact ⟨by rw [HDF.out]; rfl, H9.out.low⟩
end HdM
end Go.Proofs.Ythhnojnpjbklpaa

