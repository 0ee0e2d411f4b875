/-
  HdL, in one text.
-/
import Derived.Test.YtfmegeibnjmfpaaDoorPdQ
namespace Go.Proofs.YtfmegeibnjmfpaaDoor
namespace HdL
open Go.RowKit
open BlkM WirM WirS HdA HdB HdC HdE HdF HdG
open WirJ (st sizedO)
open WirP (aggB)
open WirX (Thg Bag)
open WirAA (box bag_box bag_sets)
open WirAB (turn3 there_at)
open WirRT (rng)
open ValK ValSK ValSM

set_option maxRecDepth 10000 in
set_option maxHeartbeats 4000000 in
theorem rname_any (w : World) (s : ByteArray) (hs : s.size ≤ 1099511627776) : Calls Tryd.prog 39 #[.string s] w fun e w' => e = .returned (.bool (nameB s)) ∧ w = w' := by
  obtain ⟨res, hres⟩ : ∃ b, nameB s = b := ⟨_, rfl⟩
  rw [hres]
  have HRES := WirS.hide hres
  have HSZ := WirS.hide hs
  have hs2 : (s.size : Int) ≤ 1099511627776 := by omega
  clear hres hs
  go_enter Tryd.func39, Tryd.ntmps39
  go_wp2_with fail
  go_loop [3] (fun i => ∃ k : Nat, k ≤ s.size ∧ i = .int .i64 (k : Int) ∧ ∀ j, j < k → okc (bt s j) = true) (fun i => s.size - (intOf i).toNat)
  case atStart => exact ⟨0, Nat.zero_le _, rfl, fun j h => absurd h (Nat.not_lt_zero j)⟩
  case round =>
    obtain ⟨k, hk, rfl, hok⟩ := hrel
    have HOK := WirS.hide hok
    clear hok
    by_cases hlt : k < s.size
    · have hkl : (k : Int) < (s.size : Int) := by omega
      have hb : bt s k = ((s[k]'hlt).toNat : Int) := by unfold bt; rw [dif_pos hlt]
      obtain ⟨x, hx⟩ : ∃ x, bt s k = x := ⟨_, rfl⟩
      have HX := WirS.hide hx
      have hix : ∀ W, (Instr.index 9 (.string s) (.int .i64 (k : Int))).run Tryd.prog W = .ok (.int .u8 x) W := fun W => by
        rw [← hx, hb]
        go_simp
      rw [hx] at hb
      clear hb hx
      have HLT := WirS.hide hlt
      have HNO := WirS.hide (fun (h : okc x = false) => show res = false from by
        rw [← HRES.out]
        have : allc s = false := by
          unfold allc
          exact decide_eq_false (fun h2 => by have := h2 k hlt; rw [HX.out, h] at this; cases this)
        simp [nameB, this])
      have HYES := WirS.hide (fun (h : okc x = true) => show ∀ j, j < k + 1 → okc (bt s j) = true from fun j hj => by
        rcases Nat.lt_or_ge j k with h1 | h1
        · exact HOK.out j h1
        · obtain rfl : j = k := by omega
          rw [HX.out]
          exact h)
      obtain hc | hc | hc | hc | hc | hc | hc : x < 45 ∨ x = 45 ∨ (46 ≤ x ∧ x ≤ 47) ∨ (48 ≤ x ∧ x ≤ 57) ∨ (58 ≤ x ∧ x ≤ 96) ∨ (97 ≤ x ∧ x ≤ 122) ∨ 123 ≤ x := by omega
      · have e : okc x = false := by simp [okc]; omega
        have HE := WirS.hide e
        have a0 : decide ((x : Int) < 97) = true := by simp; omega
        have b0 : ((x : Int) < 97) := by omega
        have a1 : decide ((122 : Int) < x) = false := by simp; omega
        have b1 : ¬ ((122 : Int) < x) := by omega
        have a2 : decide ((x : Int) < 48) = true := by simp; omega
        have b2 : ((x : Int) < 48) := by omega
        have a3 : decide ((57 : Int) < x) = false := by simp; omega
        have b3 : ¬ ((57 : Int) < x) := by omega
        have hq : (x != 45) = true := by simp; omega
        clear hc e hlt
        go_wp2_with fail
        go_ret
        exact ⟨by rw [HNO.out HE.out]; rfl, rfl⟩
      · have e : okc x = true := by simp [okc]; omega
        have HE := WirS.hide e
        have hq : (x != 45) = false := by simp [hc]
        have a1 : decide ((x : Int) < 97) = true := by simp; omega
        have a2 : decide ((122 : Int) < x) = false := by simp; omega
        have a3 : decide ((x : Int) < 48) = true := by simp; omega
        have b1 : (x : Int) < 97 := by omega
        have b3 : (x : Int) < 48 := by omega
        clear hc e hlt
        go_wp2_with fail
        go_round
        case rel => exact ⟨k + 1, by have := HLT.out; omega, by go_num, HYES.out HE.out⟩
        case measure => have := HLT.out; simp [intOf]; omega
      · have e : okc x = false := by simp [okc]; omega
        have HE := WirS.hide e
        have a0 : decide ((x : Int) < 97) = true := by simp; omega
        have b0 : ((x : Int) < 97) := by omega
        have a1 : decide ((122 : Int) < x) = false := by simp; omega
        have b1 : ¬ ((122 : Int) < x) := by omega
        have a2 : decide ((x : Int) < 48) = true := by simp; omega
        have b2 : ((x : Int) < 48) := by omega
        have a3 : decide ((57 : Int) < x) = false := by simp; omega
        have b3 : ¬ ((57 : Int) < x) := by omega
        have hq : (x != 45) = true := by simp; omega
        clear hc e hlt
        go_wp2_with fail
        go_ret
        exact ⟨by rw [HNO.out HE.out]; rfl, rfl⟩
      · have e : okc x = true := by simp [okc]; omega
        have HE := WirS.hide e
        have a0 : decide ((x : Int) < 97) = true := by simp; omega
        have b0 : ((x : Int) < 97) := by omega
        have a1 : decide ((122 : Int) < x) = false := by simp; omega
        have b1 : ¬ ((122 : Int) < x) := by omega
        have a2 : decide ((x : Int) < 48) = false := by simp; omega
        have b2 : ¬ ((x : Int) < 48) := by omega
        have a3 : decide ((57 : Int) < x) = false := by simp; omega
        have b3 : ¬ ((57 : Int) < x) := by omega
        have hq : (x != 45) = true := by simp; omega
        clear hc e hlt
        go_wp2_with fail
        go_round
        case rel => exact ⟨k + 1, by have := HLT.out; omega, by go_num, HYES.out HE.out⟩
        case measure => have := HLT.out; simp [intOf]; omega
      · have e : okc x = false := by simp [okc]; omega
        have HE := WirS.hide e
        have a0 : decide ((x : Int) < 97) = true := by simp; omega
        have b0 : ((x : Int) < 97) := by omega
        have a1 : decide ((122 : Int) < x) = false := by simp; omega
        have b1 : ¬ ((122 : Int) < x) := by omega
        have a2 : decide ((x : Int) < 48) = false := by simp; omega
        have b2 : ¬ ((x : Int) < 48) := by omega
        have a3 : decide ((57 : Int) < x) = true := by simp; omega
        have b3 : ((57 : Int) < x) := by omega
        have hq : (x != 45) = true := by simp; omega
        clear hc e hlt
        go_wp2_with fail
        go_ret
        exact ⟨by rw [HNO.out HE.out]; rfl, rfl⟩
      · have e : okc x = true := by simp [okc]; omega
        have HE := WirS.hide e
        have a0 : decide ((x : Int) < 97) = false := by simp; omega
        have b0 : ¬ ((x : Int) < 97) := by omega
        have a1 : decide ((122 : Int) < x) = false := by simp; omega
        have b1 : ¬ ((122 : Int) < x) := by omega
        have a2 : decide ((x : Int) < 48) = false := by simp; omega
        have b2 : ¬ ((x : Int) < 48) := by omega
        have a3 : decide ((57 : Int) < x) = true := by simp; omega
        have b3 : ((57 : Int) < x) := by omega
        have hq : (x != 45) = true := by simp; omega
        clear hc e hlt
        go_wp2_with fail
        go_round
        case rel => exact ⟨k + 1, by have := HLT.out; omega, by go_num, HYES.out HE.out⟩
        case measure => have := HLT.out; simp [intOf]; omega
      · have e : okc x = false := by simp [okc]; omega
        have HE := WirS.hide e
        have a0 : decide ((x : Int) < 97) = false := by simp; omega
        have b0 : ¬ ((x : Int) < 97) := by omega
        have a1 : decide ((122 : Int) < x) = true := by simp; omega
        have b1 : ((122 : Int) < x) := by omega
        have a2 : decide ((x : Int) < 48) = false := by simp; omega
        have b2 : ¬ ((x : Int) < 48) := by omega
        have a3 : decide ((57 : Int) < x) = true := by simp; omega
        have b3 : ((57 : Int) < x) := by omega
        have hq : (x != 45) = true := by simp; omega
        clear hc e hlt
        go_wp2_with fail
        go_ret
        exact ⟨by rw [HNO.out HE.out]; rfl, rfl⟩
    · obtain rfl : k = s.size := by omega
      have hal : allc s = true := by
        unfold allc
        exact decide_eq_true HOK.out
      have hr : res = (decide (0 < s.size) && decide (s.size ≤ 32)) := by
        rw [← HRES.out]
        simp [nameB, hal]
      clear hal
      by_cases h1 : 1 ≤ s.size
      · have g1 : (1 : Int) ≤ (s.size : Int) := by omega
        have g1' : decide ((1 : Int) ≤ (s.size : Int)) = true := by simpa using g1
        by_cases h2 : s.size ≤ 32
        · have g2 : (s.size : Int) ≤ 32 := by omega
          have g2' : decide ((s.size : Int) ≤ 32) = true := by simpa using g2
          obtain rfl : res = true := by rw [hr]; simp; omega
          clear hr h1 h2
          go_wp2_with fail
          go_ret
          exact ⟨rfl, rfl⟩
        · have g2 : ¬ (s.size : Int) ≤ 32 := by omega
          have g2' : decide ((s.size : Int) ≤ 32) = false := by simpa using g2
          obtain rfl : res = false := by rw [hr]; simp; omega
          clear hr h1 h2
          go_wp2_with fail
          go_ret
          exact ⟨rfl, rfl⟩
      · have g1 : ¬ (1 : Int) ≤ (s.size : Int) := by omega
        have g1' : decide ((1 : Int) ≤ (s.size : Int)) = false := by simpa using g1
        obtain rfl : res = false := by rw [hr]; simp; omega
        clear hr h1
        go_wp2_with fail
        go_ret
        exact ⟨rfl, rfl⟩
set_option maxRecDepth 10000 in
set_option maxHeartbeats 4000000 in
theorem rcheck_any (w : World) (t : Hd) (hs : t.ch.size ≤ 1099511627776) : Calls Tryd.prog 37 #[.agg t.cells.toArray] w fun e w' => e = .returned (.int .i64 (hchk t)) ∧ Below w.heap.size w w' := by
  obtain ⟨W0, e0⟩ : ∃ X, X = w.alloc (.cells t.cells.toArray 58) := ⟨_, rfl⟩
  have hA : At W0 w.heap.size 58 t.cells := by rw [e0]; exact box_at _ _
  have HB := WirS.hide (show Below w.heap.size w W0 by rw [e0]; exact box_below _ _)
  have k0 : W0.cell? ⟨w.heap.size, 0, none⟩ = some (.string t.ch) := (hA.cell 0).trans rfl
  have k1 : W0.cell? ⟨w.heap.size, 1, none⟩ = some (.int .i64 t.ht) := (hA.cell 1).trans rfl
  have k2 : W0.cell? ⟨w.heap.size, 2, none⟩ = some (.int .i64 t.tm) := (hA.cell 2).trans rfl
  have HN := WirS.hide (fun U => rname_any U t.ch hs)
  have E0 := WirS.hide e0
  have HCK := WirS.hide (show hchk t = if nameB t.ch = true then (if 1 ≤ t.ht ∧ t.ht ≤ 1073741824 then (if 0 ≤ t.tm ∧ t.tm ≤ 1099511627776 then 0 else 3) else 3) else 5 by
    unfold hchk c1 c2 c3
    by_cases h1 : nameB t.ch = true <;> by_cases h2 : 1 ≤ t.ht ∧ t.ht ≤ 1073741824 <;> simp [h1, h2])
  generalize hchk t = cd at *
  generalize t.ht = ht at *
  generalize t.tm = tm at *
  have HH : ∀ {R : Prop}, (∀ e, e = cd → R) → R := fun h => h cd rfl
  clear HH
  clear hA e0 hs
  cases hn : nameB t.ch with
  | false =>
    rw [hn] at HN HCK
    obtain rfl : cd = 5 := by rw [HCK.out]; rfl
    clear hn HCK
    generalize t.ch = ch at *
    go_enter Tryd.func37, Tryd.ntmps37
    go_upto_region 1 with fail
    rw [show w.alloc (.cells t.cells.toArray 58) = W0 from E0.out.symm]
    clear E0
    go_wp2_with (go_at_call 39; with_reducible refine (HN.out _).mono ?_; rintro e _ ⟨rfl, rfl⟩)
    go_ret
    exact ⟨rfl, HB.out⟩
  | true =>
    rw [hn, if_pos rfl] at HCK
    rw [hn] at HN
    clear hn
    generalize t.ch = ch at *
    obtain hc | hc | hc | hc | hc : (ht < 1) ∨ (1073741824 < ht) ∨ ((1 ≤ ht ∧ ht ≤ 1073741824) ∧ tm < 0) ∨ ((1 ≤ ht ∧ ht ≤ 1073741824) ∧ 1099511627776 < tm) ∨ ((1 ≤ ht ∧ ht ≤ 1073741824) ∧ (0 ≤ tm ∧ tm ≤ 1099511627776)) := by omega
    · obtain rfl : cd = 3 := by rw [HCK.out, if_neg (by omega)]
      have a0 : decide (ht < 1) = true := by simp; omega
      have b0 : (ht < 1) := by omega
      clear hc HCK
      go_enter Tryd.func37, Tryd.ntmps37
      go_upto_region 1 with fail
      rw [show w.alloc (.cells t.cells.toArray 58) = W0 from E0.out.symm]
      clear E0
      go_wp2_with (go_at_call 39; with_reducible refine (HN.out _).mono ?_; rintro e _ ⟨rfl, rfl⟩)
      go_ret
      exact ⟨rfl, HB.out⟩
    · obtain rfl : cd = 3 := by rw [HCK.out, if_neg (by omega)]
      have a0 : decide (ht < 1) = false := by simp; omega
      have b0 : ¬ (ht < 1) := by omega
      have a1 : decide (1073741824 < ht) = true := by simp; omega
      have b1 : (1073741824 < ht) := by omega
      clear hc HCK
      go_enter Tryd.func37, Tryd.ntmps37
      go_upto_region 1 with fail
      rw [show w.alloc (.cells t.cells.toArray 58) = W0 from E0.out.symm]
      clear E0
      go_wp2_with (go_at_call 39; with_reducible refine (HN.out _).mono ?_; rintro e _ ⟨rfl, rfl⟩)
      go_ret
      exact ⟨rfl, HB.out⟩
    · obtain rfl : cd = 3 := by rw [HCK.out, if_pos hc.1, if_neg (by omega)]
      have a0 : decide (ht < 1) = false := by simp; omega
      have b0 : ¬ (ht < 1) := by omega
      have a1 : decide (1073741824 < ht) = false := by simp; omega
      have b1 : ¬ (1073741824 < ht) := by omega
      have a2 : decide (tm < 0) = true := by simp; omega
      have b2 : (tm < 0) := by omega
      clear hc HCK
      go_enter Tryd.func37, Tryd.ntmps37
      go_upto_region 1 with fail
      rw [show w.alloc (.cells t.cells.toArray 58) = W0 from E0.out.symm]
      clear E0
      go_wp2_with (go_at_call 39; with_reducible refine (HN.out _).mono ?_; rintro e _ ⟨rfl, rfl⟩)
      go_ret
      exact ⟨rfl, HB.out⟩
    · obtain rfl : cd = 3 := by rw [HCK.out, if_pos hc.1, if_neg (by omega)]
      have a0 : decide (ht < 1) = false := by simp; omega
      have b0 : ¬ (ht < 1) := by omega
      have a1 : decide (1073741824 < ht) = false := by simp; omega
      have b1 : ¬ (1073741824 < ht) := by omega
      have a2 : decide (tm < 0) = false := by simp; omega
      have b2 : ¬ (tm < 0) := by omega
      have a3 : decide (1099511627776 < tm) = true := by simp; omega
      have b3 : (1099511627776 < tm) := by omega
      clear hc HCK
      go_enter Tryd.func37, Tryd.ntmps37
      go_upto_region 1 with fail
      rw [show w.alloc (.cells t.cells.toArray 58) = W0 from E0.out.symm]
      clear E0
      go_wp2_with (go_at_call 39; with_reducible refine (HN.out _).mono ?_; rintro e _ ⟨rfl, rfl⟩)
      go_ret
      exact ⟨rfl, HB.out⟩
    · obtain rfl : cd = 0 := by rw [HCK.out, if_pos hc.1, if_pos hc.2]
      have a0 : decide (ht < 1) = false := by simp; omega
      have b0 : ¬ (ht < 1) := by omega
      have a1 : decide (1073741824 < ht) = false := by simp; omega
      have b1 : ¬ (1073741824 < ht) := by omega
      have a2 : decide (tm < 0) = false := by simp; omega
      have b2 : ¬ (tm < 0) := by omega
      have a3 : decide (1099511627776 < tm) = false := by simp; omega
      have b3 : ¬ (1099511627776 < tm) := by omega
      clear hc HCK
      go_enter Tryd.func37, Tryd.ntmps37
      go_upto_region 1 with fail
      rw [show w.alloc (.cells t.cells.toArray 58) = W0 from E0.out.symm]
      clear E0
      go_wp2_with (go_at_call 39; with_reducible refine (HN.out _).mono ?_; rintro e _ ⟨rfl, rfl⟩)
      go_ret
      exact ⟨rfl, HB.out⟩
end HdL
end Go.Proofs.YtfmegeibnjmfpaaDoor

