/-
  CmT, in one text.
-/
import Derived.Test.YthcemghamdmjmaaCgA
import Derived.BigQuiet
namespace Go.Proofs.Ythcemghamdmjmaa
namespace CmT
open Go.RowKit
open BlkM WirM WirS CmA CmP CmB

def MidRo (W0 : World) (vs : List Vt) (at0 : Int) (n : Nat) (i : Value) (U : World) : Prop :=
  ∃ k : Nat, k ≤ n ∧ i = .int .i64 (k : Int) ∧ ofV at0 vs = ofV at0 (vs.drop k) ∧ Below W0.heap.size W0 U
set_option maxRecDepth 10000 in
set_option maxHeartbeats 4000000 in
theorem rof_any (w : World) (ht : Int) (h : List Int) (a : Option Addr) (n c : Nat) (vs : List Vt) (at0 : Int) (hl : h.length = 32) (hv : VtIn w a n c vs) :
    Calls Try.prog 65 #[.agg (ccl ht h (.slice a n c)).toArray, .int .i64 at0] w fun e w' => e = .returned (.tuple #[.int .u64 (ofS at0 vs), .bool (ofV at0 vs).isSome]) ∧ Below w.heap.size w w' := by
  have hlen := hv.len
  have hns : n ≤ 9223372036854775807 := Nat.le_trans hv.cap hv.small
  obtain ⟨W0, e0⟩ : ∃ X, X = w.alloc (.cells (ccl ht h (.slice a n c)).toArray TC) := ⟨_, rfl⟩
  have hA : At W0 w.heap.size TC (ccl ht h (.slice a n c)) := by rw [e0]; exact At.new w _ _
  have hB : Below w.heap.size w W0 := by rw [e0]; exact Below.alloc (Below.refl _ _) (Nat.le_refl _) _
  have HK := WirS.hide (fun (U : World) (hU : Below W0.heap.size W0 U) => ((hA.below hU hA.lt).cell 33).trans (ccl_33 _ _ _ hl))
  have HV := WirS.hide (hv.below hB)
  have HB := WirS.hide hB
  have E0 := WirS.hide e0
  have HL := WirS.hide hlen
  have HST := WirS.hide (show MidRo W0 vs at0 n (.int .i64 0) W0 from ⟨0, Nat.zero_le _, rfl, rfl, Below.refl _ _⟩)
  obtain ⟨rs, hrs⟩ : ∃ r, ofS at0 vs = r := ⟨_, rfl⟩
  obtain ⟨rb, hrb⟩ : ∃ r, (ofV at0 vs).isSome = r := ⟨_, rfl⟩
  rw [hrs, hrb]
  have HRS := WirS.hide hrs
  have HRB := WirS.hide hrb
  clear hA hB e0 hv hlen hl hrs hrb
  go_enter Try.func65, Try.ntmps65
  go_upto_region 1 with fail
  rw [← E0.out]
  go_wp2_with fail
  go_loopw [6] (fun i wr => MidRo W0 vs at0 n i wr) (fun i _ => n - (intOf i).toNat)
  case atStart => exact HST.out
  case round =>
    clear HST
    obtain ⟨k, hk, rfl, hE, hBw⟩ := hrel
    have k33 : wr.cell? ⟨w.heap.size, 33, none⟩ = some (.slice a n c) := HK.out wr hBw
    by_cases hlt : k < n
    · obtain ⟨x, B, o, hx, hmem, rfl, hBl, hr⟩ := (HV.out.below hBw).cell hlt
      have r0 : wr.cell? ⟨B, o + k * 2, none⟩ = some (.int .i64 x.at') := hr 0 _ rfl
      have r1 : wr.cell? ⟨B, o + k * 2 + 1, none⟩ = some (.int .u64 x.sg) := hr 1 _ rfl
      have hkl : (k : Int) < (n : Int) := by omega
      have HB2 := WirS.hide hBw
      rw [drop_get hx, ofV] at hE
      by_cases h0 : x.at' = at0
      · rw [if_pos h0] at hE
        have d0 : (x.at' == at0) = true := by simpa using h0
        have HE := WirS.hide hE
        clear hr hx hmem hE h0 hBw
        go_wp2_with fail
        refine bodyPost_ret (v := .tuple #[.int .u64 x.sg, .bool true]) (by simp [results, Try.results65, go_sem]) rfl ?_
        exact ⟨by rw [← HRS.out, ← HRB.out, ofS, HE.out]; rfl, HB.out.trans (HB2.out.mono HB.out.size)⟩
      · rw [if_neg h0] at hE
        have d0 : (x.at' == at0) = false := by simpa using h0
        have HE := WirS.hide hE
        clear hr hx hmem hE h0 hBw
        go_wp2_with fail
        go_roundw
        case rel => exact ⟨k + 1, by omega, by go_num, HE.out, HB2.out⟩
        case measure => simp [intOf]; omega
    · have hd : vs.drop k = [] := List.drop_eq_nil_of_le (by rw [HL.out]; omega)
      rw [hd, ofV] at hE
      have HE := WirS.hide hE
      have HBB := WirS.hide hBw
      clear hE hBw hd
      go_wp2_with fail
      refine bodyPost_ret (v := .tuple #[.int .u64 0, .bool false]) (by simp [results, Try.results65, go_sem]) rfl ?_
      exact ⟨by rw [← HRS.out, ← HRB.out, ofS, HE.out]; rfl, HB.out.trans (HBB.out.mono HB.out.size)⟩

def MidRc (W0 : World) (vs : List Vt) (n : Nat) (i : Value) (U : World) : Prop :=
  ∃ (k : Nat) (p : Int), k ≤ n ∧ i = .int .i64 (k : Int) ∧ (k = 0 → p = -1) ∧ (0 < k → vs[k - 1]?.map (·.at') = some p) ∧ chkV (-1) vs = chkV p (vs.drop k) ∧ Below W0.heap.size W0 U
set_option maxRecDepth 10000 in
set_option maxHeartbeats 8000000 in
theorem rcheck_any (w : World) (ht : Int) (h : List Int) (a : Option Addr) (n c : Nat) (vs : List Vt) (hl : h.length = 32) (hv : VtIn w a n c vs) :
    Calls Try.prog 72 #[.agg (ccl ht h (.slice a n c)).toArray] w fun e w' => e = .returned (.int .i64 (chk ht vs)) ∧ Below w.heap.size w w' := by
  have hlen := hv.len
  obtain ⟨W0, e0⟩ : ∃ X, X = w.alloc (.cells (ccl ht h (.slice a n c)).toArray TC) := ⟨_, rfl⟩
  have hA : At W0 w.heap.size TC (ccl ht h (.slice a n c)) := by rw [e0]; exact At.new w _ _
  have hB : Below w.heap.size w W0 := by rw [e0]; exact Below.alloc (Below.refl _ _) (Nat.le_refl _) _
  have k0 : W0.cell? ⟨w.heap.size, 0, none⟩ = some (.int .i64 ht) := (hA.cell 0).trans (ccl_0 _ _ _)
  have k33 : W0.cell? ⟨w.heap.size, 33, none⟩ = some (.slice a n c) := (hA.cell 33).trans (ccl_33 _ _ _ hl)
  have HK := WirS.hide (fun (U : World) (hU : Below W0.heap.size W0 U) => ((hA.below hU hA.lt).cell 33).trans (ccl_33 _ _ _ hl))
  have hXl := hA.lt
  have HB := WirS.hide hB
  have HV := WirS.hide (hv.below hB)
  have E0 := WirS.hide e0
  have HL := WirS.hide hlen
  have hC : chk ht vs = if ¬(1 ≤ ht ∧ ht ≤ 1073741824) then 3 else if 64 < n then 4 else chkV (-1) vs := by rw [← hlen]; rfl
  rw [hC]
  clear hA hB e0 hv hlen hC hl
  by_cases h1 : ht < 1
  · have d1 : decide (ht < 1) = true := by simpa using h1
    rw [if_pos (by omega)]
    go_enter Try.func72, Try.ntmps72
    go_upto_region 1 with fail
    rw [← E0.out]
    go_wp2_with fail
    go_ret
    exact ⟨rfl, HB.out⟩
  have d1 : decide (ht < 1) = false := by simpa using h1
  by_cases h2 : 1073741824 < ht
  · have d2 : decide ((1073741824 : Int) < ht) = true := by simpa using h2
    rw [if_pos (by omega)]
    go_enter Try.func72, Try.ntmps72
    go_upto_region 1 with fail
    rw [← E0.out]
    go_wp2_with fail
    go_ret
    exact ⟨rfl, HB.out⟩
  have d2 : decide ((1073741824 : Int) < ht) = false := by simpa using h2
  rw [if_neg (by omega)]
  by_cases h3 : 64 < n
  · have e2 : (64 : Int) < (n : Int) := by omega
    rw [if_pos h3]
    go_enter Try.func72, Try.ntmps72
    go_upto_region 1 with fail
    rw [← E0.out]
    go_wp2_with fail
    go_ret
    exact ⟨rfl, HB.out⟩
  have e2 : ¬ (64 : Int) < (n : Int) := by omega
  rw [if_neg h3]
  obtain ⟨cd, hcd⟩ : ∃ cd, chkV (-1) vs = cd := ⟨_, rfl⟩
  rw [hcd]
  have HCD := WirS.hide hcd
  have HST := WirS.hide (show MidRc W0 vs n (.int .i64 0) W0 from ⟨0, -1, Nat.zero_le _, rfl, fun _ => rfl, fun h => absurd h (by omega), rfl, Below.refl _ _⟩)
  clear hcd
  go_enter Try.func72, Try.ntmps72
  go_upto_region 1 with fail
  rw [← E0.out]
  go_wp2_with fail
  go_loopw [3] (fun i wr => MidRc W0 vs n i wr) (fun i _ => n - (intOf i).toNat)
  case atStart => exact HST.out
  case round =>
    clear HST k0 k33 d1 d2
    obtain ⟨k, p, hk, rfl, hp0, hp1, hE, hBw⟩ := hrel
    have k33 : wr.cell? ⟨w.heap.size, 33, none⟩ = some (.slice a n c) := HK.out wr hBw
    by_cases hlt : k < n
    · obtain ⟨x, B, o, hx, hmem, rfl, hBl, hr⟩ := (HV.out.below hBw).cell hlt
      have r0 : wr.cell? ⟨B, o + k * 2, none⟩ = some (.int .i64 x.at') := hr 0 _ rfl
      have hkl : (k : Int) < (n : Int) := by omega
      have hk63 : k ≤ 64 := by omega
      have HX := WirS.hide hx
      have HBw := WirS.hide hBw
      rw [drop_get hx, chkV] at hE
      by_cases ha : x.at' < 0
      · have d1 : decide (x.at' < 0) = true := by simpa using ha
        have HE := WirS.hide (show chkV (-1) vs = 3 by rw [hE, if_pos (by omega)])
        clear hE hx hr hmem hBw hp0 hp1
        go_wp2_with fail
        go_ret
        exact ⟨by rw [← HCD.out, HE.out]; rfl, HB.out.trans (HBw.out.mono HB.out.size)⟩
      have d1 : decide (x.at' < 0) = false := by simpa using ha
      by_cases hb : 64 ≤ x.at'
      · have d2 : decide ((64 : Int) ≤ x.at') = true := by simpa using hb
        have HE := WirS.hide (show chkV (-1) vs = 3 by rw [hE, if_pos (by omega)])
        clear hE hx hr hmem hBw hp0 hp1
        go_wp2_with fail
        go_ret
        exact ⟨by rw [← HCD.out, HE.out]; rfl, HB.out.trans (HBw.out.mono HB.out.size)⟩
      have d2 : decide ((64 : Int) ≤ x.at') = false := by simpa using hb
      rw [if_neg (by omega)] at hE
      by_cases hk0 : k = 0
      · subst hk0
        obtain rfl : p = -1 := hp0 rfl
        rw [if_neg (by omega)] at hE
        rw [Nat.zero_mul, Nat.add_zero] at r0
        have HE := WirS.hide hE
        clear hE hx hr hmem hBw hp0 hp1
        go_wp2_with fail
        go_quiet (fail)
        go_wp2_with fail
        go_roundw
        case rel => exact ⟨0 + 1, x.at', by omega, by first | rfl | go_num, fun h => absurd h (by omega), fun _ => by rw [Nat.add_sub_cancel, HX.out]; rfl, HE.out, below_drewN HBw.out _⟩
        case measure => simp [intOf]; omega
      · obtain ⟨y, B', o', hy, hmemy, e, _, hs⟩ := (HV.out.below hBw).cell (i := k - 1) (by omega)
        cases e
        have hzz : decide ((0 : Int) < (k : Int)) = true := by simp; omega
        have hzn : 0 < k := by omega
        have hkn : k - 1 < n := by omega
        have hix2 : (k : Int) - 1 < (n : Int) := by omega
        have hix : (0 : Int) ≤ (k : Int) - 1 := by omega
        have htn : ((k : Int) - 1).toNat = k - 1 := by omega
        have hwr : IntKind.i64.wrap ((k : Int) - 1) = (k : Int) - 1 := IntWalk.i64_in _ (by omega)
        obtain rfl : p = y.at' := by
          have := hp1 hzn
          rw [hy] at this
          exact (Option.some.inj this).symm
        have s0 : wr.cell? ⟨B, o + (k - 1) * 2, none⟩ = some (.int .i64 y.at') := hs 0 _ rfl
        clear hs hy hmemy
        by_cases hle : x.at' ≤ y.at'
        · have d3 : decide (x.at' ≤ y.at') = true := by simpa using hle
          rw [if_pos hle] at hE
          have HE := WirS.hide hE
          clear hE hx hr hmem hBw hp0 hp1
          go_wp2_with fail
          go_quiet (fail)
          go_wp2_with fail
          go_ret
          exact ⟨by rw [← HCD.out, HE.out]; rfl, HB.out.trans ((below_drewN HBw.out _).mono HB.out.size)⟩
        · have d3 : decide (x.at' ≤ y.at') = false := by simpa using hle
          rw [if_neg hle] at hE
          have HE := WirS.hide hE
          clear hE hx hr hmem hBw hp0 hp1
          go_wp2_with fail
          go_quiet (fail)
          go_wp2_with fail
          go_roundw
          case rel => exact ⟨k + 1, x.at', by omega, by go_num, fun h => absurd h (by omega), fun _ => by rw [Nat.add_sub_cancel, HX.out]; rfl, HE.out, below_drewN HBw.out _⟩
          case measure => simp [intOf]; omega
    · have hd : vs.drop k = [] := List.drop_eq_nil_of_le (by rw [HL.out]; omega)
      rw [hd, chkV] at hE
      have HE := WirS.hide hE
      have HBB := WirS.hide hBw
      clear hE hBw hp0 hp1 hd
      go_wp2_with fail
      go_ret
      exact ⟨by rw [← HCD.out, HE.out]; rfl, HB.out.trans (HBB.out.mono HB.out.size)⟩
end CmT
end Go.Proofs.Ythcemghamdmjmaa

