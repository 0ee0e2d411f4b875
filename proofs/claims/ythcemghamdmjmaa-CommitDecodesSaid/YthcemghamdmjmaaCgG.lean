/-
  CmT, CmDd, CmOv, in one text.
-/
import Derived.Test.YthcemghamdmjmaaCgA
import Derived.BigQuiet
import Derived.Test.YthcemghamdmjmaaCgF
import Derived.Test.YthcemghamdmjmaaCgB
namespace Go.Proofs.Ythcemghamdmjmaa
namespace CmT
open Go.RowKit
open BlkM WirM WirS CmA CmP CmB

def MidRo (W0 : World) (vs : List Vt) (at0 : Int) (n : Nat) (i : Value) (U : World) : Prop :=
  ∃ k : Nat, k ≤ n ∧ i = .int .i64 (k : Int) ∧ ofV at0 vs = ofV at0 (vs.drop k) ∧ Below W0.heap.size W0 U
set_option maxRecDepth 10000 in
set_option maxHeartbeats 4000000 in
theorem rof_any (w : World) (ht : Int) (h : List Int) (a : Option Addr) (n c : Nat) (vs : List Vt) (at0 : Int) (hl : h.length = 32) (hv : VtIn w a n c vs) :
    Calls Try.prog 65 #[.agg (ccl ht h (.slice a n c)).toArray, .int .i64 at0] w fun e w' => e = .returned (.tuple #[.int .u64 (ofS at0 vs), .bool (ofV at0 vs).isSome]) ∧ Below w.heap.size w w' := by
  have hlen := hv.len
  have hns : n ≤ 9223372036854775807 := Nat.le_trans hv.cap hv.small
  obtain ⟨W0, e0⟩ : ∃ X, X = w.alloc (.cells (ccl ht h (.slice a n c)).toArray TC) := ⟨_, rfl⟩
  have hA : At W0 w.heap.size TC (ccl ht h (.slice a n c)) := by rw [e0]; exact At.new w _ _
  have hB : Below w.heap.size w W0 := by rw [e0]; exact Below.alloc (Below.refl _ _) (Nat.le_refl _) _
  have HK := WirS.hide (fun (U : World) (hU : Below W0.heap.size W0 U) => ((hA.below hU hA.lt).cell 33).trans (ccl_33 _ _ _ hl))
  have HV := WirS.hide (hv.below hB)
  have HB := WirS.hide hB
  have E0 := WirS.hide e0
  have HL := WirS.hide hlen
  have HST := WirS.hide (show MidRo W0 vs at0 n (.int .i64 0) W0 from ⟨0, Nat.zero_le _, rfl, rfl, Below.refl _ _⟩)
  obtain ⟨rs, hrs⟩ : ∃ r, ofS at0 vs = r := ⟨_, rfl⟩
  obtain ⟨rb, hrb⟩ : ∃ r, (ofV at0 vs).isSome = r := ⟨_, rfl⟩
  rw [hrs, hrb]
  have HRS := WirS.hide hrs
  have HRB := WirS.hide hrb
  clear hA hB e0 hv hlen hl hrs hrb
  go_enter Try.func65, Try.ntmps65
  go_upto_region 1 with fail
  rw [← E0.out]
  go_wp2_with fail
  go_loopw [6] (fun i wr => MidRo W0 vs at0 n i wr) (fun i _ => n - (intOf i).toNat)
  case atStart => exact HST.out
  case round =>
    clear HST
    obtain ⟨k, hk, rfl, hE, hBw⟩ := hrel
    have k33 : wr.cell? ⟨w.heap.size, 33, none⟩ = some (.slice a n c) := HK.out wr hBw
    by_cases hlt : k < n
    · obtain ⟨x, B, o, hx, hmem, rfl, hBl, hr⟩ := (HV.out.below hBw).cell hlt
      have r0 : wr.cell? ⟨B, o + k * 2, none⟩ = some (.int .i64 x.at') := hr 0 _ rfl
      have r1 : wr.cell? ⟨B, o + k * 2 + 1, none⟩ = some (.int .u64 x.sg) := hr 1 _ rfl
      have hkl : (k : Int) < (n : Int) := by omega
      have HB2 := WirS.hide hBw
      rw [drop_get hx, ofV] at hE
      by_cases h0 : x.at' = at0
      · rw [if_pos h0] at hE
        have d0 : (x.at' == at0) = true := by simpa using h0
        have HE := WirS.hide hE
        clear hr hx hmem hE h0 hBw
        go_wp2_with fail
        refine bodyPost_ret (v := .tuple #[.int .u64 x.sg, .bool true]) (by simp [results, Try.results65, go_sem]) rfl ?_
        exact ⟨by rw [← HRS.out, ← HRB.out, ofS, HE.out]; rfl, HB.out.trans (HB2.out.mono HB.out.size)⟩
      · rw [if_neg h0] at hE
        have d0 : (x.at' == at0) = false := by simpa using h0
        have HE := WirS.hide hE
        clear hr hx hmem hE h0 hBw
        go_wp2_with fail
        go_roundw
        case rel => exact ⟨k + 1, by omega, by go_num, HE.out, HB2.out⟩
        case measure => simp [intOf]; omega
    · have hd : vs.drop k = [] := List.drop_eq_nil_of_le (by rw [HL.out]; omega)
      rw [hd, ofV] at hE
      have HE := WirS.hide hE
      have HBB := WirS.hide hBw
      clear hE hBw hd
      go_wp2_with fail
      refine bodyPost_ret (v := .tuple #[.int .u64 0, .bool false]) (by simp [results, Try.results65, go_sem]) rfl ?_
      exact ⟨by rw [← HRS.out, ← HRB.out, ofS, HE.out]; rfl, HB.out.trans (HBB.out.mono HB.out.size)⟩

def MidRc (W0 : World) (vs : List Vt) (n : Nat) (i : Value) (U : World) : Prop :=
  ∃ (k : Nat) (p : Int), k ≤ n ∧ i = .int .i64 (k : Int) ∧ (k = 0 → p = -1) ∧ (0 < k → vs[k - 1]?.map (·.at') = some p) ∧ chkV (-1) vs = chkV p (vs.drop k) ∧ Below W0.heap.size W0 U
set_option maxRecDepth 10000 in
set_option maxHeartbeats 8000000 in
theorem rcheck_any (w : World) (ht : Int) (h : List Int) (a : Option Addr) (n c : Nat) (vs : List Vt) (hl : h.length = 32) (hv : VtIn w a n c vs) :
    Calls Try.prog 72 #[.agg (ccl ht h (.slice a n c)).toArray] w fun e w' => e = .returned (.int .i64 (chk ht vs)) ∧ Below w.heap.size w w' := by
  have hlen := hv.len
  obtain ⟨W0, e0⟩ : ∃ X, X = w.alloc (.cells (ccl ht h (.slice a n c)).toArray TC) := ⟨_, rfl⟩
  have hA : At W0 w.heap.size TC (ccl ht h (.slice a n c)) := by rw [e0]; exact At.new w _ _
  have hB : Below w.heap.size w W0 := by rw [e0]; exact Below.alloc (Below.refl _ _) (Nat.le_refl _) _
  have k0 : W0.cell? ⟨w.heap.size, 0, none⟩ = some (.int .i64 ht) := (hA.cell 0).trans (ccl_0 _ _ _)
  have k33 : W0.cell? ⟨w.heap.size, 33, none⟩ = some (.slice a n c) := (hA.cell 33).trans (ccl_33 _ _ _ hl)
  have HK := WirS.hide (fun (U : World) (hU : Below W0.heap.size W0 U) => ((hA.below hU hA.lt).cell 33).trans (ccl_33 _ _ _ hl))
  have hXl := hA.lt
  have HB := WirS.hide hB
  have HV := WirS.hide (hv.below hB)
  have E0 := WirS.hide e0
  have HL := WirS.hide hlen
  have hC : chk ht vs = if ¬(1 ≤ ht ∧ ht ≤ 1073741824) then 3 else if 64 < n then 4 else chkV (-1) vs := by rw [← hlen]; rfl
  rw [hC]
  clear hA hB e0 hv hlen hC hl
  by_cases h1 : ht < 1
  · have d1 : decide (ht < 1) = true := by simpa using h1
    rw [if_pos (by omega)]
    go_enter Try.func72, Try.ntmps72
    go_upto_region 1 with fail
    rw [← E0.out]
    go_wp2_with fail
    go_ret
    exact ⟨rfl, HB.out⟩
  have d1 : decide (ht < 1) = false := by simpa using h1
  by_cases h2 : 1073741824 < ht
  · have d2 : decide ((1073741824 : Int) < ht) = true := by simpa using h2
    rw [if_pos (by omega)]
    go_enter Try.func72, Try.ntmps72
    go_upto_region 1 with fail
    rw [← E0.out]
    go_wp2_with fail
    go_ret
    exact ⟨rfl, HB.out⟩
  have d2 : decide ((1073741824 : Int) < ht) = false := by simpa using h2
  rw [if_neg (by omega)]
  by_cases h3 : 64 < n
  · have e2 : (64 : Int) < (n : Int) := by omega
    rw [if_pos h3]
    go_enter Try.func72, Try.ntmps72
    go_upto_region 1 with fail
    rw [← E0.out]
    go_wp2_with fail
    go_ret
    exact ⟨rfl, HB.out⟩
  have e2 : ¬ (64 : Int) < (n : Int) := by omega
  rw [if_neg h3]
  obtain ⟨cd, hcd⟩ : ∃ cd, chkV (-1) vs = cd := ⟨_, rfl⟩
  rw [hcd]
  have HCD := WirS.hide hcd
  have HST := WirS.hide (show MidRc W0 vs n (.int .i64 0) W0 from ⟨0, -1, Nat.zero_le _, rfl, fun _ => rfl, fun h => absurd h (by omega), rfl, Below.refl _ _⟩)
  clear hcd
  go_enter Try.func72, Try.ntmps72
  go_upto_region 1 with fail
  rw [← E0.out]
  go_wp2_with fail
  go_loopw [3] (fun i wr => MidRc W0 vs n i wr) (fun i _ => n - (intOf i).toNat)
  case atStart => exact HST.out
  case round =>
    clear HST k0 k33 d1 d2
    obtain ⟨k, p, hk, rfl, hp0, hp1, hE, hBw⟩ := hrel
    have k33 : wr.cell? ⟨w.heap.size, 33, none⟩ = some (.slice a n c) := HK.out wr hBw
    by_cases hlt : k < n
    · obtain ⟨x, B, o, hx, hmem, rfl, hBl, hr⟩ := (HV.out.below hBw).cell hlt
      have r0 : wr.cell? ⟨B, o + k * 2, none⟩ = some (.int .i64 x.at') := hr 0 _ rfl
      have hkl : (k : Int) < (n : Int) := by omega
      have hk63 : k ≤ 64 := by omega
      have HX := WirS.hide hx
      have HBw := WirS.hide hBw
      rw [drop_get hx, chkV] at hE
      by_cases ha : x.at' < 0
      · have d1 : decide (x.at' < 0) = true := by simpa using ha
        have HE := WirS.hide (show chkV (-1) vs = 3 by rw [hE, if_pos (by omega)])
        clear hE hx hr hmem hBw hp0 hp1
        go_wp2_with fail
        go_ret
        exact ⟨by rw [← HCD.out, HE.out]; rfl, HB.out.trans (HBw.out.mono HB.out.size)⟩
      have d1 : decide (x.at' < 0) = false := by simpa using ha
      by_cases hb : 64 ≤ x.at'
      · have d2 : decide ((64 : Int) ≤ x.at') = true := by simpa using hb
        have HE := WirS.hide (show chkV (-1) vs = 3 by rw [hE, if_pos (by omega)])
        clear hE hx hr hmem hBw hp0 hp1
        go_wp2_with fail
        go_ret
        exact ⟨by rw [← HCD.out, HE.out]; rfl, HB.out.trans (HBw.out.mono HB.out.size)⟩
      have d2 : decide ((64 : Int) ≤ x.at') = false := by simpa using hb
      rw [if_neg (by omega)] at hE
      by_cases hk0 : k = 0
      · subst hk0
        obtain rfl : p = -1 := hp0 rfl
        rw [if_neg (by omega)] at hE
        rw [Nat.zero_mul, Nat.add_zero] at r0
        have HE := WirS.hide hE
        clear hE hx hr hmem hBw hp0 hp1
        go_wp2_with fail
        go_quiet (fail)
        go_wp2_with fail
        go_roundw
        case rel => exact ⟨0 + 1, x.at', by omega, by first | rfl | go_num, fun h => absurd h (by omega), fun _ => by rw [Nat.add_sub_cancel, HX.out]; rfl, HE.out, below_drewN HBw.out _⟩
        case measure => simp [intOf]; omega
      · obtain ⟨y, B', o', hy, hmemy, e, _, hs⟩ := (HV.out.below hBw).cell (i := k - 1) (by omega)
        cases e
        have hzz : decide ((0 : Int) < (k : Int)) = true := by simp; omega
        have hzn : 0 < k := by omega
        have hkn : k - 1 < n := by omega
        have hix2 : (k : Int) - 1 < (n : Int) := by omega
        have hix : (0 : Int) ≤ (k : Int) - 1 := by omega
        have htn : ((k : Int) - 1).toNat = k - 1 := by omega
        have hwr : IntKind.i64.wrap ((k : Int) - 1) = (k : Int) - 1 := IntWalk.i64_in _ (by omega)
        obtain rfl : p = y.at' := by
          have := hp1 hzn
          rw [hy] at this
          exact (Option.some.inj this).symm
        have s0 : wr.cell? ⟨B, o + (k - 1) * 2, none⟩ = some (.int .i64 y.at') := hs 0 _ rfl
        clear hs hy hmemy
        by_cases hle : x.at' ≤ y.at'
        · have d3 : decide (x.at' ≤ y.at') = true := by simpa using hle
          rw [if_pos hle] at hE
          have HE := WirS.hide hE
          clear hE hx hr hmem hBw hp0 hp1
          go_wp2_with fail
          go_quiet (fail)
          go_wp2_with fail
          go_ret
          exact ⟨by rw [← HCD.out, HE.out]; rfl, HB.out.trans ((below_drewN HBw.out _).mono HB.out.size)⟩
        · have d3 : decide (x.at' ≤ y.at') = false := by simpa using hle
          rw [if_neg hle] at hE
          have HE := WirS.hide hE
          clear hE hx hr hmem hBw hp0 hp1
          go_wp2_with fail
          go_quiet (fail)
          go_wp2_with fail
          go_roundw
          case rel => exact ⟨k + 1, x.at', by omega, by go_num, fun h => absurd h (by omega), fun _ => by rw [Nat.add_sub_cancel, HX.out]; rfl, HE.out, below_drewN HBw.out _⟩
          case measure => simp [intOf]; omega
    · have hd : vs.drop k = [] := List.drop_eq_nil_of_le (by rw [HL.out]; omega)
      rw [hd, chkV] at hE
      have HE := WirS.hide hE
      have HBB := WirS.hide hBw
      clear hE hBw hp0 hp1 hd
      go_wp2_with fail
      go_ret
      exact ⟨by rw [← HCD.out, HE.out]; rfl, HB.out.trans (HBB.out.mono HB.out.size)⟩
end CmT
end Go.Proofs.Ythcemghamdmjmaa

namespace Go.Proofs.Ythcemghamdmjmaa
namespace CmDd
open Go.RowKit
open BlkM WirM WirS CmA CmP CmB CmJ CmL CmF CmU CmM CmT
open CmI (TL)
open WirE (NewB)
open WirX (Thg Bag)
open WirAA (box bag_box bag_set bag_sets)
open WirAB (sCx there_at)
open WirRT (rng)
open ValK ValSK ValSM ValSN ValSA ValSC
open ValSG (restS)

theorem st_i {o : Oper} {a : Act} {w : World} {K : Act → World → Prop} {Q : Exit → Act → World → Prop} {x y : Operand} (ho : o.op = .store 3 x y) (M k : Nat) (n : Int) (c0 : Option Value) (hx : a.eval x = .pointer (some ⟨M, k, none⟩)) (hy : a.eval y = .int .i64 n)
    (hc : w.cell? ⟨M, k, none⟩ = c0) (hs : c0.isSome = true) (hf : w.frozen? ⟨M, k, none⟩ = false) (h : K (a.put o.dst undef) (w.setCell ⟨M, k, none⟩ (.int .i64 n))) : o.wp Try.prog a w K Q := by
  obtain ⟨c1, rfl⟩ := Option.isSome_iff_exists.1 hs
  unfold Oper.wp execOp
  simp only [ho, hx, hy, Instr.storeAt, Instr.sureAddr, Sem.run_bind, Sem.run_pure, Result.andThen_ok]
  have hst : (storeVar 3 ⟨M, k, none⟩ (.int .i64 n)).run Try.prog w = .ok () (w.setCell ⟨M, k, none⟩ (.int .i64 n)) := by
    have e := run_storeCells_cells (P := Try.prog) M k [.int .i64 n] 0 w (fun j hj => by obtain rfl : j = 0 := (by simp at hj; omega); simp [hc]) (fun j hj => by obtain rfl : j = 0 := (by simp at hj; omega); simpa using hf) (fun v hv => by simp at hv; subst hv; rfl)
    have hq : (sizeOf 3).run Try.prog w = .ok 1 w := by kernel_rfl
    simp [storeVar, hq, Value.cells, World.setCells, hc, hf, go_sem] at e ⊢
  rw [hst]
  exact h
theorem st_iL {ops : Array Oper} {Q : Exit → Act → World → Prop} {rest : List Oper} {o : Oper} {a : Act} {w : World} {x y : Operand} (hw : Region.wanted o (yielded ops a.tmps) = true) (ho : o.op = .store 3 x y) (M k : Nat) (n : Int) (c0 : Option Value) (hx : a.eval x = .pointer (some ⟨M, k, none⟩)) (hy : a.eval y = .int .i64 n)
    (hc : w.cell? ⟨M, k, none⟩ = c0) (hs : c0.isSome = true) (hf : w.frozen? ⟨M, k, none⟩ = false) (h : wpList Try.prog ops Q rest (a.put o.dst undef) (w.setCell ⟨M, k, none⟩ (.int .i64 n))) : wpList Try.prog ops Q (o :: rest) a w :=
  stepW hw fun _ hK => st_i ho M k n c0 hx hy hc hs hf (hK _ _ h)
theorem st_u {o : Oper} {a : Act} {w : World} {K : Act → World → Prop} {Q : Exit → Act → World → Prop} {x y : Operand} (ho : o.op = .store 37 x y) (M k : Nat) (n : Int) (c0 : Option Value) (hx : a.eval x = .pointer (some ⟨M, k, none⟩)) (hy : a.eval y = .int .u64 n)
    (hc : w.cell? ⟨M, k, none⟩ = c0) (hs : c0.isSome = true) (hf : w.frozen? ⟨M, k, none⟩ = false) (h : K (a.put o.dst undef) (w.setCell ⟨M, k, none⟩ (.int .u64 n))) : o.wp Try.prog a w K Q := by
  obtain ⟨c1, rfl⟩ := Option.isSome_iff_exists.1 hs
  unfold Oper.wp execOp
  simp only [ho, hx, hy, Instr.storeAt, Instr.sureAddr, Sem.run_bind, Sem.run_pure, Result.andThen_ok]
  have hst : (storeVar 37 ⟨M, k, none⟩ (.int .u64 n)).run Try.prog w = .ok () (w.setCell ⟨M, k, none⟩ (.int .u64 n)) := by
    have e := run_storeCells_cells (P := Try.prog) M k [.int .u64 n] 0 w (fun j hj => by obtain rfl : j = 0 := (by simp at hj; omega); simp [hc]) (fun j hj => by obtain rfl : j = 0 := (by simp at hj; omega); simpa using hf) (fun v hv => by simp at hv; subst hv; rfl)
    have hq : (sizeOf 37).run Try.prog w = .ok 1 w := by kernel_rfl
    simp [storeVar, hq, Value.cells, World.setCells, hc, hf, go_sem] at e ⊢
  rw [hst]
  exact h
theorem st_uL {ops : Array Oper} {Q : Exit → Act → World → Prop} {rest : List Oper} {o : Oper} {a : Act} {w : World} {x y : Operand} (hw : Region.wanted o (yielded ops a.tmps) = true) (ho : o.op = .store 37 x y) (M k : Nat) (n : Int) (c0 : Option Value) (hx : a.eval x = .pointer (some ⟨M, k, none⟩)) (hy : a.eval y = .int .u64 n)
    (hc : w.cell? ⟨M, k, none⟩ = c0) (hs : c0.isSome = true) (hf : w.frozen? ⟨M, k, none⟩ = false) (h : wpList Try.prog ops Q rest (a.put o.dst undef) (w.setCell ⟨M, k, none⟩ (.int .u64 n))) : wpList Try.prog ops Q (o :: rest) a w :=
  stepW hw fun _ hK => st_u ho M k n c0 hx hy hc hs hf (hK _ _ h)
theorem st_e {o : Oper} {a : Act} {w : World} {K : Act → World → Prop} {Q : Exit → Act → World → Prop} {x y : Operand} (ho : o.op = .store 26 x y) (M k : Nat) (n : Int) (c0 : Option Value) (hx : a.eval x = .pointer (some ⟨M, k, none⟩)) (hy : a.eval y = .int .i64 n)
    (hc : w.cell? ⟨M, k, none⟩ = c0) (hs : c0.isSome = true) (hf : w.frozen? ⟨M, k, none⟩ = false) (h : K (a.put o.dst undef) (w.setCell ⟨M, k, none⟩ (.int .i64 n))) : o.wp Try.prog a w K Q := by
  obtain ⟨c1, rfl⟩ := Option.isSome_iff_exists.1 hs
  unfold Oper.wp execOp
  simp only [ho, hx, hy, Instr.storeAt, Instr.sureAddr, Sem.run_bind, Sem.run_pure, Result.andThen_ok]
  have hst : (storeVar 26 ⟨M, k, none⟩ (.int .i64 n)).run Try.prog w = .ok () (w.setCell ⟨M, k, none⟩ (.int .i64 n)) := by
    have e := run_storeCells_cells (P := Try.prog) M k [.int .i64 n] 0 w (fun j hj => by obtain rfl : j = 0 := (by simp at hj; omega); simp [hc]) (fun j hj => by obtain rfl : j = 0 := (by simp at hj; omega); simpa using hf) (fun v hv => by simp at hv; subst hv; rfl)
    have hq : (sizeOf 26).run Try.prog w = .ok 1 w := by kernel_rfl
    simp [storeVar, hq, Value.cells, World.setCells, hc, hf, go_sem] at e ⊢
  rw [hst]
  exact h
theorem st_eL {ops : Array Oper} {Q : Exit → Act → World → Prop} {rest : List Oper} {o : Oper} {a : Act} {w : World} {x y : Operand} (hw : Region.wanted o (yielded ops a.tmps) = true) (ho : o.op = .store 26 x y) (M k : Nat) (n : Int) (c0 : Option Value) (hx : a.eval x = .pointer (some ⟨M, k, none⟩)) (hy : a.eval y = .int .i64 n)
    (hc : w.cell? ⟨M, k, none⟩ = c0) (hs : c0.isSome = true) (hf : w.frozen? ⟨M, k, none⟩ = false) (h : wpList Try.prog ops Q rest (a.put o.dst undef) (w.setCell ⟨M, k, none⟩ (.int .i64 n))) : wpList Try.prog ops Q (o :: rest) a w :=
  stepW hw fun _ hK => st_e ho M k n c0 hx hy hc hs hf (hK _ _ h)
theorem bag_rfS {w0 w w' : World} {l : List Thg} {R : Nat} {a : Option Addr} {c : Nat} {bs : List Int} (h : Bag w0 w l) (hR : w.heap.size ≤ R) (hs : RR w' R a c bs 0 0 0) (hn : ∀ k, (Value.slice a bs.length c).ownBlock = some k → w.heap.size ≤ k) (hb : Below w.heap.size w w') : Bag w0 w' (rfS R a c bs (.inr 0) :: l) :=
  h.new hb (show RS w' R a c bs (.inr 0) from ⟨Nat.zero_le _, hs⟩) (fun k hk => by
    rcases hk with rfl | hk
    · exact hR
    · exact hn k hk)
/-- A commit's cells with another height; another hash. -/
theorem ccl_ht (ht ht' : Int) (h : List Int) (s : Value) : (ccl ht h s).set 0 (.int .i64 ht') = ccl ht' h s := rfl
theorem ccl_hash (ht : Int) (h h' : List Int) (s : Value) (hl : h.length = 32) (hl' : h'.length = 32) : (ccl ht h s).take 1 ++ (b8 h' ++ (ccl ht h s).drop (1 + (b8 h').length)) = ccl ht h' s := by
  have e : (b8 h ++ [s]).drop 32 = [s] := List.drop_left' (by rw [b8_len, hl])
  rw [b8_len, hl', show 1 + 32 = 32 + 1 by omega]
  show .int .i64 ht :: (b8 h' ++ (b8 h ++ [s]).drop 32) = ccl ht h' s
  rw [e]
  rfl
def MidR (w : World) (bs : List Int) (s0 : St) (HT : Int) (HH : List Int) (R : Nat) (ra : Option Addr) (rc X m A0 A1 : Nat) (i : Value) (U : World) : Prop :=
  ∃ (k : Nat) (va : Option Addr) (vn vc : Nat), k ≤ m ∧ i = .int .i64 (k : Int) ∧ Bag w U [rfS R ra rc bs (itC bs s0 k).2, ownt (.slice va vn vc) (itC bs s0 k).1, box TC X (ccl HT HH (.slice va vn vc)), box FT A1 (f2 0 0), box TC A0 zcm]
set_option maxRecDepth 20000 in
set_option maxHeartbeats 16000000 in
theorem rdecode_any (w : World) (b : Option Addr) (n c : Nat) (bs : List Int) (hb : BIn w (.slice b n c) bs) (hr : rng bs) (hn : n ≤ 1099511627776) :
    Calls Try.prog 76 #[.slice b n c] w (CDP w bs) := by
  have hnl : n = bs.length := by obtain ⟨_, _, e, _⟩ := hb; cases e; rfl
  obtain ⟨HT, eHT⟩ : ∃ x, cht bs = x := ⟨_, rfl⟩
  obtain ⟨HH, eHH⟩ : ∃ x, chh bs = x := ⟨_, rfl⟩
  obtain ⟨N, eN⟩ : ∃ x, cnum bs = x := ⟨_, rfl⟩
  obtain ⟨T, eT⟩ : ∃ x, cat' bs = x := ⟨_, rfl⟩
  obtain ⟨t1, et1⟩ : ∃ x, q1 bs = x := ⟨_, rfl⟩
  obtain ⟨t2, et2⟩ : ∃ x, q2 bs = x := ⟨_, rfl⟩
  obtain ⟨s0, es0⟩ : ∃ x, q3 bs = x := ⟨_, rfl⟩
  obtain ⟨RE, eRE⟩ : ∃ x, restS bs t2 = x := ⟨_, rfl⟩
  have hT := cat_ok hr
  have hNN := cnum_ok hr
  have hHL : HH.length = 32 := by rw [← eHH]; exact rH_len _ _
  rw [eT] at hT
  rw [eN] at hNN
  have hTe : (n : Int) - RE = T := by rw [hnl, ← eT, ← eRE, ← et2]; rfl
  have hwr : IntKind.i64.wrap ((n : Int) - RE) = T := by
    rw [hTe]
    simp [IntKind.wrap, IntKind.bits, IntKind.signed]
    omega
  have hE : cE bs = if 64 < N then (4, T) else if (endS bs (itC bs s0 N.toNat).2).1 ≠ 0 then endS bs (itC bs s0 N.toNat).2 else if chk HT (itC bs s0 N.toNat).1 ≠ 0 then (chk HT (itC bs s0 N.toNat).1, 0) else (0, 0) := by
    unfold cE cst cvs
    rw [eN, eT, es0, eHT]
  have HEV := WirS.hide (show cvs bs = (itC bs s0 N.toNat).1 by unfold cvs; rw [eN, es0])
  have HSO := WirS.hide (show ∀ k, stOk bs (itC bs s0 k).2 from fun k => by rw [← es0]; exact itC_st hr (q3_st hr) k)
  have hbl : bs.length ≤ 1099511627776 := by omega
  have HRD := WirS.hide (fun (U : World) (hU : Below w.heap.size w U) => newr_any U b n c bs (hb.below hU) hn)
  have C0 := WirS.hide (fun (U : World) (l : List Thg) (R : Nat) (ra : Option Addr) (rc : Nat) (h : Bag w U (rfS R ra rc bs (.inr 0) :: l)) => show Calls Try.prog 114 #[.pointer (some ⟨R, 0, none⟩)] U (fun e w' => e = .returned (.int .i64 HT) ∧ Bag w w' (rfS R ra rc bs t1 :: l)) from by
    have := x_act h (rs_num U R ra rc bs (.inr 0) h.head hbl hr)
    rw [show (rN bs (.inr 0)).1 = HT from eHT, show (rN bs (.inr 0)).2 = t1 from et1] at this
    exact this)
  have C1 := WirS.hide (fun (U : World) (l : List Thg) (R : Nat) (ra : Option Addr) (rc : Nat) (h : Bag w U (rfS R ra rc bs t1 :: l)) => show Calls Try.prog 117 #[.pointer (some ⟨R, 0, none⟩)] U (fun e w' => e = .returned (.agg (b8 HH).toArray) ∧ Bag w w' (rfS R ra rc bs t2 :: l)) from by
    have := x_act h (rs_hash U R ra rc bs t1 h.head hbl)
    rw [show (rO (WirN.zz 32) (WirO.rowO 32 bs) t1).1 = HH from by rw [← eHH, ← et1]; rfl, show (rO (WirN.zz 32) (WirO.rowO 32 bs) t1).2 = t2 from by rw [← et2, ← et1]; rfl] at this
    exact this)
  have C2 := WirS.hide (fun (U : World) (l : List Thg) (R : Nat) (ra : Option Addr) (rc : Nat) (h : Bag w U (rfS R ra rc bs t2 :: l)) => show Calls Try.prog 34 #[.pointer (some ⟨R, 0, none⟩)] U (fun e w' => e = .returned (.int .i64 RE) ∧ Bag w w' (rfS R ra rc bs t2 :: l)) from by
    have := x_rest h hbl
    rw [eRE] at this
    exact this)
  have C3 := WirS.hide (fun (U : World) (l : List Thg) (R : Nat) (ra : Option Addr) (rc : Nat) (h : Bag w U (rfS R ra rc bs t2 :: l)) => show Calls Try.prog 114 #[.pointer (some ⟨R, 0, none⟩)] U (fun e w' => e = .returned (.int .i64 N) ∧ Bag w w' (rfS R ra rc bs s0 :: l)) from by
    have := x_act h (rs_num U R ra rc bs t2 h.head hbl hr)
    rw [show (rN bs t2).1 = N from by rw [← eN, ← et2]; rfl, show (rN bs t2).2 = s0 from by rw [← es0, ← et2]; rfl] at this
    exact this)
  have HDV := WirS.hide (And.intro eHT eHH)
  have HR := WirS.hide hr
  have HBL := WirS.hide hbl
  have HD := WirS.hide hE
  have HHL := WirS.hide hHL
  have HWR := WirS.hide hwr
  clear hb hr hn hnl hbl eHT eHH eN eT et1 et2 es0 eRE hTe hwr hE hHL
  have H1 := WirS.hide (Bag.nil (Below.refl w.heap.size w))
  go_enter Try.func76, Try.ntmps76
  go_upto_region 0 with fail
  refine wp_region_lit ?_
  refine sV (.pointer (some ⟨w.heap.size, 0, none⟩)) (w.alloc (.cells zcm.toArray TC)) (by kernel_rfl) (by kernel_rfl) ?_
  simp only [Act.put, List.setIfInBounds_toArray, List.set_cons_succ, List.set_cons_zero]
  obtain ⟨A0, eA0⟩ : ∃ A, w.heap.size = A := ⟨_, rfl⟩
  have hbA0 := bag_box (T := TC) (cs := zcm) (X := A0) H1.out eA0.symm (w' := w.alloc (.cells zcm.toArray TC)) (by rw [← eA0]; exact At.new _ _ _) (Below.alloc (Below.refl _ _) (Nat.le_refl _) _)
  rw [eA0]
  clear eA0
  generalize World.alloc w _ = u2 at *
  have H3 := WirS.hide (hbA0)
  clear H1
  clear hbA0
  refine sV (.pointer (some ⟨u2.heap.size, 0, none⟩)) (u2.alloc (.cells (f2 0 0).toArray FT)) (by kernel_rfl) (by kernel_rfl) ?_
  simp only [Act.put, List.setIfInBounds_toArray, List.set_cons_succ, List.set_cons_zero]
  obtain ⟨A1, eA1⟩ : ∃ A, u2.heap.size = A := ⟨_, rfl⟩
  have hbA1 := bag_box (T := FT) (cs := (f2 0 0)) (X := A1) H3.out eA1.symm (w' := u2.alloc (.cells (f2 0 0).toArray FT)) (by rw [← eA1]; exact At.new _ _ _) (Below.alloc (Below.refl _ _) (Nat.le_refl _) _)
  rw [eA1]
  clear eA1
  generalize World.alloc u2 _ = u4 at *
  have H5 := WirS.hide (hbA1)
  clear H3
  clear hbA1
  have HRD2 := WirS.hide (HRD.out u4 H5.out.low)
  go_upto_region 2 with ((go_at_call 31; refine (HRD2.out).mono ?_; rintro e u6 ⟨R, ra, rc, rfl, hR, hs, hnw, hb2⟩; have H7 := WirS.hide (bag_rfS H5.out hR hs hnw hb2); clear hR hs hnw hb2 H5 HRD2 HRD))
  refine wp_region_lit ?_
  refine sV (.pointer (some ⟨u6.heap.size, 0, none⟩)) (u6.alloc (.cells zcm.toArray TC)) (by kernel_rfl) (by kernel_rfl) ?_
  simp only [Act.put, List.setIfInBounds_toArray, List.set_cons_succ, List.set_cons_zero]
  obtain ⟨X, eX⟩ : ∃ A, u6.heap.size = A := ⟨_, rfl⟩
  have hbX := bag_box (T := TC) (cs := zcm) (X := X) H7.out eX.symm (w' := u6.alloc (.cells zcm.toArray TC)) (by rw [← eX]; exact At.new _ _ _) (Below.alloc (Below.refl _ _) (Nat.le_refl _) _)
  rw [eX]
  clear eX
  generalize World.alloc u6 _ = u8 at *
  have H9 := WirS.hide (hbX)
  clear H7
  clear hbX
  go_upto_region 3 with fail
  refine wp_region_lit ?_
  have H10 := WirS.hide (H9.out.perm (show [box TC X zcm, rfS R ra rc bs (.inr 0), box FT A1 (f2 0 0), box TC A0 zcm].Perm [rfS R ra rc bs (.inr 0), box TC X zcm, box FT A1 (f2 0 0), box TC A0 zcm] from ((List.perm_middle (l₁ := [box TC X zcm])).trans (.cons _ ((List.perm_middle (l₁ := [])).trans (.cons _ ((List.perm_middle (l₁ := [])).trans (.cons _ ((List.perm_middle (l₁ := [])).trans (.cons _ (.refl _)))))))))))
  clear H9
  refine sV (.pointer (some ⟨R, 0, none⟩)) (u8) (by kernel_rfl) (by kernel_rfl) ?_
  simp only [Act.put, List.setIfInBounds_toArray, List.set_cons_succ, List.set_cons_zero]
  refine sC (R := fun w' => Bag w w' [rfS R ra rc bs t1, box TC X zcm, box FT A1 (f2 0 0), box TC A0 zcm]) (v := .int .i64 HT) (by kernel_rfl) (by kernel_rfl) (C0.out _ _ _ _ _ H10.out) ?_
  rintro u11 hz
  simp only [Act.put, List.setIfInBounds_toArray, List.set_cons_succ, List.set_cons_zero]
  have H12 := WirS.hide hz
  clear hz H10
  refine sV (.pointer (some ⟨X, 0, none⟩)) (u11) (by kernel_rfl) (by kernel_rfl) ?_
  simp only [Act.put, List.setIfInBounds_toArray, List.set_cons_succ, List.set_cons_zero]
  have H13 := WirS.hide (H12.out.perm (show [rfS R ra rc bs t1, box TC X zcm, box FT A1 (f2 0 0), box TC A0 zcm].Perm [box TC X zcm, rfS R ra rc bs t1, box FT A1 (f2 0 0), box TC A0 zcm] from ((List.perm_middle (l₁ := [rfS R ra rc bs t1])).trans (.cons _ ((List.perm_middle (l₁ := [])).trans (.cons _ ((List.perm_middle (l₁ := [])).trans (.cons _ ((List.perm_middle (l₁ := [])).trans (.cons _ (.refl _)))))))))))
  clear H12
  refine st_iL (x := .tmp 15) (y := .tmp 14) (by kernel_rfl) (by kernel_rfl) X 0 HT _ (by kernel_rfl) (by kernel_rfl) (H13.out.head.cell 0) (by rfl) (H13.out.head.frozen 0) ?_
  try simp only [Act.put]
  have H15 := WirS.hide (show Bag w (u11.setCell ⟨X, 0, none⟩ (.int .i64 HT)) (box TC X (ccl HT z32 (.slice none 0 0)) :: [rfS R ra rc bs t1, box FT A1 (f2 0 0), box TC A0 zcm]) from by have hb := bag_set H13.out 0 (.int .i64 HT); exact hb)
  clear H13
  generalize World.setCell u11 _ _ = u14 at *
  go_upto_region 4 with fail
  refine wp_region_lit ?_
  have H16 := WirS.hide (H15.out.perm (show [box TC X (ccl HT z32 (.slice none 0 0)), rfS R ra rc bs t1, box FT A1 (f2 0 0), box TC A0 zcm].Perm [rfS R ra rc bs t1, box TC X (ccl HT z32 (.slice none 0 0)), box FT A1 (f2 0 0), box TC A0 zcm] from ((List.perm_middle (l₁ := [box TC X (ccl HT z32 (.slice none 0 0))])).trans (.cons _ ((List.perm_middle (l₁ := [])).trans (.cons _ ((List.perm_middle (l₁ := [])).trans (.cons _ ((List.perm_middle (l₁ := [])).trans (.cons _ (.refl _)))))))))))
  clear H15
  refine sV (.pointer (some ⟨R, 0, none⟩)) (u14) (by kernel_rfl) (by kernel_rfl) ?_
  simp only [Act.put, List.setIfInBounds_toArray, List.set_cons_succ, List.set_cons_zero]
  refine sC (R := fun w' => Bag w w' [rfS R ra rc bs t2, box TC X (ccl HT z32 (.slice none 0 0)), box FT A1 (f2 0 0), box TC A0 zcm]) (v := .agg (b8 HH).toArray) (by kernel_rfl) (by kernel_rfl) (C1.out _ _ _ _ _ H16.out) ?_
  rintro u17 hz
  simp only [Act.put, List.setIfInBounds_toArray, List.set_cons_succ, List.set_cons_zero]
  have H18 := WirS.hide hz
  clear hz H16
  refine sV (.pointer (some ⟨X, 1, none⟩)) (u17) (by kernel_rfl) (by kernel_rfl) ?_
  simp only [Act.put, List.setIfInBounds_toArray, List.set_cons_succ, List.set_cons_zero]
  have H19 := WirS.hide (H18.out.perm (show [rfS R ra rc bs t2, box TC X (ccl HT z32 (.slice none 0 0)), box FT A1 (f2 0 0), box TC A0 zcm].Perm [box TC X (ccl HT z32 (.slice none 0 0)), rfS R ra rc bs t2, box FT A1 (f2 0 0), box TC A0 zcm] from ((List.perm_middle (l₁ := [rfS R ra rc bs t2])).trans (.cons _ ((List.perm_middle (l₁ := [])).trans (.cons _ ((List.perm_middle (l₁ := [])).trans (.cons _ ((List.perm_middle (l₁ := [])).trans (.cons _ (.refl _)))))))))))
  clear H18
  refine wpList_store_mid (by rfl) _ _ _ (by rfl) X 1 (b8 HH).toArray (by kernel_rfl) (by kernel_rfl) (there_at H19.out.head 1 _ (by rw [List.size_toArray, b8_len, HHL.out, ccl_len _ _ _ (by rfl)]; decide)) (by rw [List.size_toArray, b8_len, HHL.out]; kernel_rfl) (all_oneCell_toArray (one_b8 _)) ?_
  try simp only [Act.put]
  have H21 := WirS.hide (show Bag w (u17.setCells X 1 (b8 HH).toArray.toList) (box TC X (ccl HT HH (.slice none 0 0)) :: [rfS R ra rc bs t2, box FT A1 (f2 0 0), box TC A0 zcm]) from by have hb := bag_sets H19.out 1 (b8 HH) (by rw [b8_len, HHL.out, ccl_len _ _ _ (by rfl)]; decide); rw [ccl_hash _ _ _ _ (by rfl) HHL.out] at hb; exact hb)
  clear H19
  generalize World.setCells u17 X 1 _ = u20 at *
  go_upto_region 5 with fail
  refine wp_region_lit ?_
  refine sV (.slice b n c) (u20) (by kernel_rfl) (by kernel_rfl) ?_
  simp only [Act.put, List.setIfInBounds_toArray, List.set_cons_succ, List.set_cons_zero]
  refine sV (.int .i64 (n : Int)) (u20) (by kernel_rfl) (by kernel_rfl) ?_
  simp only [Act.put, List.setIfInBounds_toArray, List.set_cons_succ, List.set_cons_zero]
  have H22 := WirS.hide (H21.out.perm (show [box TC X (ccl HT HH (.slice none 0 0)), rfS R ra rc bs t2, box FT A1 (f2 0 0), box TC A0 zcm].Perm [rfS R ra rc bs t2, box TC X (ccl HT HH (.slice none 0 0)), box FT A1 (f2 0 0), box TC A0 zcm] from ((List.perm_middle (l₁ := [box TC X (ccl HT HH (.slice none 0 0))])).trans (.cons _ ((List.perm_middle (l₁ := [])).trans (.cons _ ((List.perm_middle (l₁ := [])).trans (.cons _ ((List.perm_middle (l₁ := [])).trans (.cons _ (.refl _)))))))))))
  clear H21
  refine sV (.pointer (some ⟨R, 0, none⟩)) (u20) (by kernel_rfl) (by kernel_rfl) ?_
  simp only [Act.put, List.setIfInBounds_toArray, List.set_cons_succ, List.set_cons_zero]
  refine sC (R := fun w' => Bag w w' [rfS R ra rc bs t2, box TC X (ccl HT HH (.slice none 0 0)), box FT A1 (f2 0 0), box TC A0 zcm]) (v := .int .i64 RE) (by kernel_rfl) (by kernel_rfl) (C2.out _ _ _ _ _ H22.out) ?_
  rintro u23 hz
  simp only [Act.put, List.setIfInBounds_toArray, List.set_cons_succ, List.set_cons_zero]
  have H24 := WirS.hide hz
  clear hz H22
  refine sV (.int .i64 (IntKind.i64.wrap ((n : Int) - RE))) (u23) (by kernel_rfl) (by kernel_rfl) ?_
  simp only [Act.put, List.setIfInBounds_toArray, List.set_cons_succ, List.set_cons_zero]
  rw [HWR.out]
  go_upto_region 6 with fail
  refine wp_region_lit ?_
  refine sV (.pointer (some ⟨R, 0, none⟩)) (u23) (by kernel_rfl) (by kernel_rfl) ?_
  simp only [Act.put, List.setIfInBounds_toArray, List.set_cons_succ, List.set_cons_zero]
  refine sC (R := fun w' => Bag w w' [rfS R ra rc bs s0, box TC X (ccl HT HH (.slice none 0 0)), box FT A1 (f2 0 0), box TC A0 zcm]) (v := .int .i64 N) (by kernel_rfl) (by kernel_rfl) (C3.out _ _ _ _ _ H24.out) ?_
  rintro u25 hz
  simp only [Act.put, List.setIfInBounds_toArray, List.set_cons_succ, List.set_cons_zero]
  have H26 := WirS.hide hz
  clear hz H24
  by_cases h64 : 64 < N
  · have HD2 := WirS.hide (show cE bs = (4, T) by rw [HD.out, if_pos h64])
    have d1 : decide (64 < N) = true := by simpa using h64
    clear h64
    go_upto_region 8 with fail
    refine wp_region_lit ?_
    refine sV (.agg zcm.toArray) (u25) (by kernel_rfl) (by kernel_rfl) ?_
    simp only [Act.put, List.setIfInBounds_toArray, List.set_cons_succ, List.set_cons_zero]
    refine sV (.int .i64 T) (u25) (by kernel_rfl) (by kernel_rfl) ?_
    simp only [Act.put, List.setIfInBounds_toArray, List.set_cons_succ, List.set_cons_zero]
    refine sV (.agg (f2 4 T).toArray) (u25) (by kernel_rfl) (by kernel_rfl) ?_
    simp only [Act.put, List.setIfInBounds_toArray, List.set_cons_succ, List.set_cons_zero]
    have H27 := WirS.hide (H26.out.perm (show [rfS R ra rc bs s0, box TC X (ccl HT HH (.slice none 0 0)), box FT A1 (f2 0 0), box TC A0 zcm].Perm [box TC A0 zcm, rfS R ra rc bs s0, box TC X (ccl HT HH (.slice none 0 0)), box FT A1 (f2 0 0)] from ((List.perm_middle (l₁ := [rfS R ra rc bs s0, box TC X (ccl HT HH (.slice none 0 0)), box FT A1 (f2 0 0)])).trans (.cons _ ((List.perm_middle (l₁ := [])).trans (.cons _ ((List.perm_middle (l₁ := [])).trans (.cons _ ((List.perm_middle (l₁ := [])).trans (.cons _ (.refl _)))))))))))
    clear H26
    refine stepStore (by rfl) _ _ _ (by rfl) A0 zcm (by kernel_rfl) (by kernel_rfl) H27.out.head 34 (by kernel_rfl) (by rfl) (by rfl) (one_ccl _ _ _ _ _) ?_
    simp only [Act.put]
    have H29 := WirS.hide (bag_row H27.out zcm)
    clear H27
    generalize World.setRow u25 A0 _ = u28 at *
    have H30 := WirS.hide (H29.out.perm (show [box TC A0 zcm, rfS R ra rc bs s0, box TC X (ccl HT HH (.slice none 0 0)), box FT A1 (f2 0 0)].Perm [box FT A1 (f2 0 0), box TC A0 zcm, rfS R ra rc bs s0, box TC X (ccl HT HH (.slice none 0 0))] from ((List.perm_middle (l₁ := [box TC A0 zcm, rfS R ra rc bs s0, box TC X (ccl HT HH (.slice none 0 0))])).trans (.cons _ ((List.perm_middle (l₁ := [])).trans (.cons _ ((List.perm_middle (l₁ := [])).trans (.cons _ ((List.perm_middle (l₁ := [])).trans (.cons _ (.refl _)))))))))))
    clear H29
    refine stepStore (by rfl) _ _ _ (by rfl) A1 (f2 4 T) (by kernel_rfl) (by kernel_rfl) H30.out.head 2 (by kernel_rfl) (by rfl) (by rfl) (by kernel_rfl) ?_
    simp only [Act.put]
    have H32 := WirS.hide (bag_row H30.out (f2 4 T))
    clear H30
    generalize World.setRow u28 A1 _ = u31 at *
    go_wp2_with fail
    refine bodyPost_ret (retRows (show At u31 A0 TC zcm from (H32.out.all (box TC A0 zcm) (by simp)).1) (show At u31 A1 FT (f2 4 T) from (H32.out.all (box FT A1 (f2 4 T)) (by simp)).1) Try.results76 _ (by rfl) (by rfl) _ _ 34 2 UC rfl (by kernel_rfl) (by rfl) Try.underlying55 rfl (by kernel_rfl) (by rfl)) rfl ?_
    exact cd_bad HD2.out (by decide) rfl H32.out.low
  have d1 : decide (64 < N) = false := by simpa using h64
  obtain ⟨m, rfl⟩ : ∃ m : Nat, N = (m : Int) := ⟨N.toNat, by omega⟩
  have HD2 := WirS.hide (show cE bs = if (endS bs (itC bs s0 m).2).1 ≠ 0 then endS bs (itC bs s0 m).2 else if chk HT (itC bs s0 m).1 ≠ 0 then (chk HT (itC bs s0 m).1, 0) else (0, 0) by rw [HD.out, if_neg h64, Int.toNat_natCast])
  rw [Int.toNat_natCast] at HEV
  clear HD
  have hm64 : m ≤ 64 := by omega
  have e64 : ¬ (64 : Int) < (m : Int) := h64
  clear h64 hT hNN
  have H34 := WirS.hide ((bag_ownt H26.out (OwnT.nil _) (fun k hk => by simp [Value.ownBlock] at hk) (Below.refl _ _)).perm (show [ownt (.slice none 0 0) [], rfS R ra rc bs s0, box TC X (ccl HT HH (.slice none 0 0)), box FT A1 (f2 0 0), box TC A0 zcm].Perm [rfS R ra rc bs s0, ownt (.slice none 0 0) [], box TC X (ccl HT HH (.slice none 0 0)), box FT A1 (f2 0 0), box TC A0 zcm] from ((List.perm_middle (l₁ := [ownt (.slice none 0 0) []])).trans (.cons _ ((List.perm_middle (l₁ := [])).trans (.cons _ ((List.perm_middle (l₁ := [])).trans (.cons _ ((List.perm_middle (l₁ := [])).trans (.cons _ ((List.perm_middle (l₁ := [])).trans (.cons _ (.refl _)))))))))))))
  clear H26
  go_wp2_with fail
  go_loopw [8] (fun i wr => MidR w bs s0 HT HH R ra rc X m A0 A1 i wr) (fun i _ => m - (intOf i).toNat)
  case atStart => exact ⟨0, none, 0, 0, Nat.zero_le _, rfl, H34.out⟩
  case round =>
    clear H34
    obtain ⟨k, va, vn, vc, hk, rfl, hB⟩ := hrel
    by_cases hlt : k < m
    · have hkl : (k : Int) < (m : Int) := by omega
      obtain ⟨ls, els⟩ : ∃ y, (itC bs s0 k).1 = y := ⟨_, rfl⟩
      obtain ⟨sk, esk⟩ : ∃ y, (itC bs s0 k).2 = y := ⟨_, rfl⟩
      obtain ⟨pn, epn⟩ : ∃ y, (rN bs sk).1 = y := ⟨_, rfl⟩
      obtain ⟨s1, es1⟩ : ∃ y, (rN bs sk).2 = y := ⟨_, rfl⟩
      obtain ⟨wn, ewn⟩ : ∃ y, (rW bs s1).1 = y := ⟨_, rfl⟩
      obtain ⟨s2, es2⟩ : ∃ y, (rW bs s1).2 = y := ⟨_, rfl⟩
      have HIT := WirS.hide (show itC bs s0 (k + 1) = (ls ++ [(⟨pn, wn⟩ : Vt)], s2) by rw [itC, els, esk, epn, es1, ewn, es2])
      have HLS := WirS.hide (show ls.length = k by rw [← els]; exact itC_len bs s0 k)
      have HOK := WirS.hide (show (⟨pn, wn⟩ : Vt).ok from by
        have h1 := rN_ok HR.out sk
        have h2 := rW_ok HR.out s1
        rw [epn] at h1
        rw [ewn] at h2
        exact ⟨⟨by show _ ≤ pn; omega, by show pn < _; omega⟩, h2⟩)
      rw [els, esk] at hB
      have HC1 := WirS.hide (fun (U : World) (l : List Thg) (h : Bag w U (rfS R ra rc bs sk :: l)) => show Calls Try.prog 114 #[.pointer (some ⟨R, 0, none⟩)] U (fun e w' => e = .returned (.int .i64 pn) ∧ Bag w w' (rfS R ra rc bs s1 :: l)) from by
        have := x_act h (rs_num U R ra rc bs sk h.head HBL.out HR.out)
        rw [epn, es1] at this
        exact this)
      have HC2 := WirS.hide (fun (U : World) (l : List Thg) (h : Bag w U (rfS R ra rc bs s1 :: l)) => show Calls Try.prog 119 #[.pointer (some ⟨R, 0, none⟩)] U (fun e w' => e = .returned (.int .u64 wn) ∧ Bag w w' (rfS R ra rc bs s2 :: l)) from by
        have := x_act h (rs_word U R ra rc bs s1 h.head HBL.out HR.out)
        rw [show (rO 0 (WirJ.wordO bs) s1).1 = wn from ewn, show (rO 0 (WirJ.wordO bs) s1).2 = s2 from es2] at this
        exact this)
      have HB := WirS.hide hB
      clear hB els esk epn es1 ewn es2
      go_upto_region 12 with fail
      refine wp_region_lit ?_
      refine sV (.pointer (some ⟨R, 0, none⟩)) (wr) (by kernel_rfl) (by kernel_rfl) ?_
      simp only [Act.put, List.setIfInBounds_toArray, List.set_cons_succ, List.set_cons_zero]
      refine sC (R := fun w' => Bag w w' [rfS R ra rc bs s1, ownt (.slice va vn vc) ls, box TC X (ccl HT HH (.slice va vn vc)), box FT A1 (f2 0 0), box TC A0 zcm]) (v := .int .i64 pn) (by kernel_rfl) (by kernel_rfl) (HC1.out _ _ HB.out) ?_
      rintro u35 hz
      simp only [Act.put, List.setIfInBounds_toArray, List.set_cons_succ, List.set_cons_zero]
      have H36 := WirS.hide hz
      clear hz HB
      refine sV (.agg #[.int .i64 pn, .int .u64 0]) (u35) (by kernel_rfl) (by kernel_rfl) ?_
      simp only [Act.put, List.setIfInBounds_toArray, List.set_cons_succ, List.set_cons_zero]
      refine sV (.pointer (some ⟨u35.heap.size, 0, none⟩)) (u35.alloc (.cells (⟨0, 0⟩ : Vt).cells.toArray TV)) (by kernel_rfl) (by kernel_rfl) ?_
      simp only [Act.put, List.setIfInBounds_toArray, List.set_cons_succ, List.set_cons_zero]
      obtain ⟨L37, eL37⟩ : ∃ A, u35.heap.size = A := ⟨_, rfl⟩
      have hbL37 := bag_box (T := TV) (cs := (⟨0, 0⟩ : Vt).cells) (X := L37) H36.out eL37.symm (w' := u35.alloc (.cells (⟨0, 0⟩ : Vt).cells.toArray TV)) (by rw [← eL37]; exact At.new _ _ _) (Below.alloc (Below.refl _ _) (Nat.le_refl _) _)
      rw [eL37]
      clear eL37
      generalize World.alloc u35 _ = u38 at *
      have H39 := WirS.hide (hbL37)
      clear H36
      clear hbL37
      refine stepStore (by rfl) _ _ _ (by rfl) L37 (⟨pn, 0⟩ : Vt).cells (by kernel_rfl) (by kernel_rfl) H39.out.head 2 (by kernel_rfl) (by rfl) (by rfl) (by kernel_rfl) ?_
      simp only [Act.put]
      have H41 := WirS.hide (bag_row H39.out (⟨pn, 0⟩ : Vt).cells)
      clear H39
      generalize World.setRow u38 L37 _ = u40 at *
      go_upto_region 13 with fail
      refine wp_region_lit ?_
      have H42 := WirS.hide (H41.out.perm (show [box TV L37 (⟨pn, 0⟩ : Vt).cells, rfS R ra rc bs s1, ownt (.slice va vn vc) ls, box TC X (ccl HT HH (.slice va vn vc)), box FT A1 (f2 0 0), box TC A0 zcm].Perm [rfS R ra rc bs s1, box TV L37 (⟨pn, 0⟩ : Vt).cells, ownt (.slice va vn vc) ls, box TC X (ccl HT HH (.slice va vn vc)), box FT A1 (f2 0 0), box TC A0 zcm] from ((List.perm_middle (l₁ := [box TV L37 (⟨pn, 0⟩ : Vt).cells])).trans (.cons _ ((List.perm_middle (l₁ := [])).trans (.cons _ ((List.perm_middle (l₁ := [])).trans (.cons _ ((List.perm_middle (l₁ := [])).trans (.cons _ ((List.perm_middle (l₁ := [])).trans (.cons _ ((List.perm_middle (l₁ := [])).trans (.cons _ (.refl _)))))))))))))))
      clear H41
      refine sV (.pointer (some ⟨R, 0, none⟩)) (u40) (by kernel_rfl) (by kernel_rfl) ?_
      simp only [Act.put, List.setIfInBounds_toArray, List.set_cons_succ, List.set_cons_zero]
      refine sC (R := fun w' => Bag w w' [rfS R ra rc bs s2, box TV L37 (⟨pn, 0⟩ : Vt).cells, ownt (.slice va vn vc) ls, box TC X (ccl HT HH (.slice va vn vc)), box FT A1 (f2 0 0), box TC A0 zcm]) (v := .int .u64 wn) (by kernel_rfl) (by kernel_rfl) (HC2.out _ _ H42.out) ?_
      rintro u43 hz
      simp only [Act.put, List.setIfInBounds_toArray, List.set_cons_succ, List.set_cons_zero]
      have H44 := WirS.hide hz
      clear hz H42
      refine sV (.pointer (some ⟨L37, 1, none⟩)) (u43) (by kernel_rfl) (by kernel_rfl) ?_
      simp only [Act.put, List.setIfInBounds_toArray, List.set_cons_succ, List.set_cons_zero]
      have H45 := WirS.hide (H44.out.perm (show [rfS R ra rc bs s2, box TV L37 (⟨pn, 0⟩ : Vt).cells, ownt (.slice va vn vc) ls, box TC X (ccl HT HH (.slice va vn vc)), box FT A1 (f2 0 0), box TC A0 zcm].Perm [box TV L37 (⟨pn, 0⟩ : Vt).cells, rfS R ra rc bs s2, ownt (.slice va vn vc) ls, box TC X (ccl HT HH (.slice va vn vc)), box FT A1 (f2 0 0), box TC A0 zcm] from ((List.perm_middle (l₁ := [rfS R ra rc bs s2])).trans (.cons _ ((List.perm_middle (l₁ := [])).trans (.cons _ ((List.perm_middle (l₁ := [])).trans (.cons _ ((List.perm_middle (l₁ := [])).trans (.cons _ ((List.perm_middle (l₁ := [])).trans (.cons _ ((List.perm_middle (l₁ := [])).trans (.cons _ (.refl _)))))))))))))))
      clear H44
      refine st_uL (x := .tmp 41) (y := .tmp 40) (by kernel_rfl) (by kernel_rfl) L37 1 wn _ (by kernel_rfl) (by kernel_rfl) (H45.out.head.cell 1) (by rfl) (H45.out.head.frozen 1) ?_
      try simp only [Act.put]
      have H47 := WirS.hide (show Bag w (u43.setCell ⟨L37, 1, none⟩ (.int .u64 wn)) (box TV L37 (⟨pn, wn⟩ : Vt).cells :: [rfS R ra rc bs s2, ownt (.slice va vn vc) ls, box TC X (ccl HT HH (.slice va vn vc)), box FT A1 (f2 0 0), box TC A0 zcm]) from by have hb := bag_set H45.out 1 (.int .u64 wn); exact hb)
      clear H45
      generalize World.setCell u43 _ _ = u46 at *
      go_upto_region 14 with fail
      refine wp_region_lit ?_
      refine sV (.pointer (some ⟨X, 33, none⟩)) (u46) (by kernel_rfl) (by kernel_rfl) ?_
      simp only [Act.put, List.setIfInBounds_toArray, List.set_cons_succ, List.set_cons_zero]
      refine sP (by kernel_rfl) _ _ (by rfl) ⟨X, 33, none⟩ (by kernel_rfl) (.slice va vn vc) (((show At u46 X TC (ccl HT HH (.slice va vn vc)) from (H47.out.all (box TC X (ccl HT HH (.slice va vn vc))) (by simp)).1).cell 33).trans (ccl_33 _ _ _ HHL.out)) (by kernel_rfl) ?_
      simp only [Act.put, List.setIfInBounds_toArray, List.set_cons_succ, List.set_cons_zero]
      refine sL (by kernel_rfl) _ _ (by rfl) _ (by kernel_rfl) (H47.out.all (box TV L37 (⟨pn, wn⟩ : Vt).cells) (by simp)).1 _ _ Try.underlying119 rfl (by kernel_rfl) (by rfl) ?_
      simp only [Act.put, List.setIfInBounds_toArray, List.set_cons_succ, List.set_cons_zero]
      refine sV (.slice (some ⟨u46.heap.size, 0, none⟩) 1 1) (u46.alloc (.cells (⟨pn, wn⟩ : Vt).cells.toArray TV)) (by kernel_rfl) (by kernel_rfl) ?_
      simp only [Act.put, List.setIfInBounds_toArray, List.set_cons_succ, List.set_cons_zero]
      have H48 := WirS.hide (H47.out.perm (show [box TV L37 (⟨pn, wn⟩ : Vt).cells, rfS R ra rc bs s2, ownt (.slice va vn vc) ls, box TC X (ccl HT HH (.slice va vn vc)), box FT A1 (f2 0 0), box TC A0 zcm].Perm [ownt (.slice va vn vc) ls, box TV L37 (⟨pn, wn⟩ : Vt).cells, rfS R ra rc bs s2, box TC X (ccl HT HH (.slice va vn vc)), box FT A1 (f2 0 0), box TC A0 zcm] from ((List.perm_middle (l₁ := [box TV L37 (⟨pn, wn⟩ : Vt).cells, rfS R ra rc bs s2])).trans (.cons _ ((List.perm_middle (l₁ := [])).trans (.cons _ ((List.perm_middle (l₁ := [])).trans (.cons _ ((List.perm_middle (l₁ := [])).trans (.cons _ ((List.perm_middle (l₁ := [])).trans (.cons _ ((List.perm_middle (l₁ := [])).trans (.cons _ (.refl _)))))))))))))))
      clear H47
      have hal : Below u46.heap.size u46 (u46.alloc (.cells (⟨pn, wn⟩ : Vt).cells.toArray TV)) := Below.alloc (Below.refl _ _) (Nat.le_refl _) _
      obtain ⟨v1, p1, r1, o1, f1, n1⟩ := app_votes (u46.alloc (.cells (⟨pn, wn⟩ : Vt).cells.toArray TV)) TL TL (.slice va vn vc) (.slice (some ⟨u46.heap.size, 0, none⟩) 1 1) ls [(⟨pn, wn⟩ : Vt)] ((show OwnT u46 (.slice va vn vc) ls from (H48.out.all (ownt (.slice va vn vc) ls) (by simp)).1).below hal) (CmI.src_1 (At.new u46 _ (⟨pn, wn⟩ : Vt).cells)) (fun z hz => by rw [List.mem_singleton.1 hz]; exact HOK.out) (by have := HLS.out; simp only [List.length_singleton]; omega)
      obtain ⟨xa, xc, rfl⟩ := o1.len_of
      have H49 := WirS.hide ((H48.out.more hal).act (o' := ownt (.slice xa (ls ++ [(⟨pn, wn⟩ : Vt)]).length xc) (ls ++ [(⟨pn, wn⟩ : Vt)])) f1 o1 n1)
      clear H48
      refine sA (by kernel_rfl) TL TL _ _ (by rfl) (.slice va vn vc) (.slice (some ⟨u46.heap.size, 0, none⟩) 1 1) (by kernel_rfl) (by kernel_rfl) (.slice xa (ls ++ [(⟨pn, wn⟩ : Vt)]).length xc) (p1) r1 ?_
      simp only [Act.put, List.setIfInBounds_toArray, List.set_cons_succ, List.set_cons_zero]
      clear hal r1 o1 f1 n1
      obtain ⟨xn, exn⟩ : ∃ z, (ls ++ [(⟨pn, wn⟩ : Vt)]).length = z := ⟨_, rfl⟩
      rw [exn] at H49 ⊢
      clear exn
      refine sV (.pointer (some ⟨X, 33, none⟩)) (p1) (by kernel_rfl) (by kernel_rfl) ?_
      simp only [Act.put, List.setIfInBounds_toArray, List.set_cons_succ, List.set_cons_zero]
      have H50 := WirS.hide (H49.out.perm (show [ownt (.slice xa xn xc) (ls ++ [(⟨pn, wn⟩ : Vt)]), box TV L37 (⟨pn, wn⟩ : Vt).cells, rfS R ra rc bs s2, box TC X (ccl HT HH (.slice va vn vc)), box FT A1 (f2 0 0), box TC A0 zcm].Perm [box TC X (ccl HT HH (.slice va vn vc)), ownt (.slice xa xn xc) (ls ++ [(⟨pn, wn⟩ : Vt)]), box TV L37 (⟨pn, wn⟩ : Vt).cells, rfS R ra rc bs s2, box FT A1 (f2 0 0), box TC A0 zcm] from ((List.perm_middle (l₁ := [ownt (.slice xa xn xc) (ls ++ [(⟨pn, wn⟩ : Vt)]), box TV L37 (⟨pn, wn⟩ : Vt).cells, rfS R ra rc bs s2])).trans (.cons _ ((List.perm_middle (l₁ := [])).trans (.cons _ ((List.perm_middle (l₁ := [])).trans (.cons _ ((List.perm_middle (l₁ := [])).trans (.cons _ ((List.perm_middle (l₁ := [])).trans (.cons _ ((List.perm_middle (l₁ := [])).trans (.cons _ (.refl _)))))))))))))))
      clear H49
      refine sSl (x := .tmp 47) (y := .tmp 46) (by kernel_rfl) (by kernel_rfl) X 33 xa xn xc _ (by kernel_rfl) (by kernel_rfl) (H50.out.head.cell 33) (by rw [ccl_33 _ _ _ HHL.out]; rfl) (H50.out.head.frozen 33) ?_
      try simp only [Act.put]
      have H52 := WirS.hide (show Bag w (p1.setCell ⟨X, 33, none⟩ (.slice xa xn xc)) (box TC X (ccl HT HH (.slice xa xn xc)) :: [ownt (.slice xa xn xc) (ls ++ [(⟨pn, wn⟩ : Vt)]), box TV L37 (⟨pn, wn⟩ : Vt).cells, rfS R ra rc bs s2, box FT A1 (f2 0 0), box TC A0 zcm]) from by have hb := bag_set H50.out 33 (.slice xa xn xc); rw [ccl_set _ _ _ _ HHL.out] at hb; exact hb)
      clear H50
      generalize World.setCell p1 _ _ = u51 at *
      go_wp2_with fail
      go_roundw
      case rel =>
        refine ⟨k + 1, xa, xn, xc, by omega, by go_num, ?_⟩
        rw [HIT.out]
        exact (H52.out.perm (show [box TC X (ccl HT HH (.slice xa xn xc)), ownt (.slice xa xn xc) (ls ++ [(⟨pn, wn⟩ : Vt)]), box TV L37 (⟨pn, wn⟩ : Vt).cells, rfS R ra rc bs s2, box FT A1 (f2 0 0), box TC A0 zcm].Perm [box TV L37 (⟨pn, wn⟩ : Vt).cells, rfS R ra rc bs s2, ownt (.slice xa xn xc) (ls ++ [(⟨pn, wn⟩ : Vt)]), box TC X (ccl HT HH (.slice xa xn xc)), box FT A1 (f2 0 0), box TC A0 zcm] from ((List.perm_middle (l₁ := [box TC X (ccl HT HH (.slice xa xn xc)), ownt (.slice xa xn xc) (ls ++ [(⟨pn, wn⟩ : Vt)])])).trans (.cons _ ((List.perm_middle (l₁ := [box TC X (ccl HT HH (.slice xa xn xc)), ownt (.slice xa xn xc) (ls ++ [(⟨pn, wn⟩ : Vt)])])).trans (.cons _ ((List.perm_middle (l₁ := [box TC X (ccl HT HH (.slice xa xn xc))])).trans (.cons _ ((List.perm_middle (l₁ := [])).trans (.cons _ ((List.perm_middle (l₁ := [])).trans (.cons _ ((List.perm_middle (l₁ := [])).trans (.cons _ (.refl _))))))))))))))).drop
      case measure => simp [intOf]; omega
    · obtain rfl : k = m := by omega
      obtain ⟨ls, els⟩ : ∃ y, (itC bs s0 k).1 = y := ⟨_, rfl⟩
      obtain ⟨s1, es1⟩ : ∃ y, (itC bs s0 k).2 = y := ⟨_, rfl⟩
      have hso := HSO.out k
      rw [els, es1] at hB HD2
      rw [es1] at hso
      rw [els] at HEV
      obtain ⟨fe, efe⟩ : ∃ y, (endS bs s1).1 = y := ⟨_, rfl⟩
      obtain ⟨fa, efa⟩ : ∃ y, (endS bs s1).2 = y := ⟨_, rfl⟩
      have HZ := WirS.hide (fun h0 : fe = 0 => show fa = 0 from by rw [← efa]; exact (end_zero hso (by rw [efe]; exact h0)).2)
      have hend := x_end hB
      rw [efe, efa] at hend
      rw [efe, show endS bs s1 = (fe, fa) by rw [← efe, ← efa]] at HD2
      have HE := WirS.hide hend
      clear hB hend hso els es1 efe efa
      go_upto_region 15 with fail
      refine wp_region_lit ?_
      refine sV (.pointer (some ⟨R, 0, none⟩)) (wr) (by kernel_rfl) (by kernel_rfl) ?_
      simp only [Act.put, List.setIfInBounds_toArray, List.set_cons_succ, List.set_cons_zero]
      refine sC (by kernel_rfl) (by kernel_rfl) HE.out ?_
      rintro u53 hb
      simp only [Act.put, List.setIfInBounds_toArray, List.set_cons_succ, List.set_cons_zero]
      have HB := WirS.hide hb
      clear hb HE
      refine sV (.pointer (some ⟨u53.heap.size, 0, none⟩)) (u53.alloc (.cells (f2 0 0).toArray FT)) (by kernel_rfl) (by kernel_rfl) ?_
      simp only [Act.put, List.setIfInBounds_toArray, List.set_cons_succ, List.set_cons_zero]
      obtain ⟨F, eF⟩ : ∃ A, u53.heap.size = A := ⟨_, rfl⟩
      have hbF := bag_box (T := FT) (cs := (f2 0 0)) (X := F) HB.out eF.symm (w' := u53.alloc (.cells (f2 0 0).toArray FT)) (by rw [← eF]; exact At.new _ _ _) (Below.alloc (Below.refl _ _) (Nat.le_refl _) _)
      rw [eF]
      clear eF
      generalize World.alloc u53 _ = u54 at *
      have H55 := WirS.hide (hbF)
      clear HB
      clear hbF
      refine stepStore (by rfl) _ _ _ (by rfl) F (f2 fe fa) (by kernel_rfl) (by kernel_rfl) H55.out.head 2 (by kernel_rfl) (by rfl) (by rfl) (by kernel_rfl) ?_
      simp only [Act.put]
      have H57 := WirS.hide (bag_row H55.out (f2 fe fa))
      clear H55
      generalize World.setRow u54 F _ = u56 at *
      by_cases hfe : fe = 0
      · have hfa := HZ.out hfe
        subst hfe
        subst hfa
        rw [if_neg (by simp)] at HD2
        have d0 : u56.cell? ⟨F, 0, none⟩ = some (.int .i64 0) := (show At u56 F FT (f2 0 0) from (H57.out.all (box FT F (f2 0 0)) (by simp)).1).cell 0
        go_upto_region 17 with fail
        clear d0
        refine wp_region_lit ?_
        refine sL (by kernel_rfl) _ _ (by rfl) _ (by kernel_rfl) (H57.out.all (box TC X (ccl HT HH (.slice va vn vc))) (by simp)).1 _ _ UC rfl (by kernel_rfl) (by rw [ccl_len _ _ _ HHL.out]) ?_
        simp only [Act.put, List.setIfInBounds_toArray, List.set_cons_succ, List.set_cons_zero]
        obtain ⟨cd, hcd⟩ : ∃ cd, chk HT ls = cd := ⟨_, rfl⟩
        rw [hcd] at HD2
        refine sC (R := fun w' => Below u56.heap.size u56 w') (v := .int .i64 cd) (by kernel_rfl) (by kernel_rfl) (by have C := rcheck_any u56 HT HH va vn vc ls HHL.out ((show OwnT u56 (.slice va vn vc) ls from (H57.out.all (ownt (.slice va vn vc) ls) (by simp)).1).vin); rw [hcd] at C; exact C) ?_
        rintro u58 hb
        simp only [Act.put, List.setIfInBounds_toArray, List.set_cons_succ, List.set_cons_zero]
        have H59 := WirS.hide (H57.out.more hb)
        clear H57
        clear hb
        clear hcd
        refine sV (.pointer (some ⟨F, 0, none⟩)) (u58) (by kernel_rfl) (by kernel_rfl) ?_
        simp only [Act.put, List.setIfInBounds_toArray, List.set_cons_succ, List.set_cons_zero]
        refine st_eL (x := .tmp 55) (y := .tmp 54) (by kernel_rfl) (by kernel_rfl) F 0 cd _ (by kernel_rfl) (by kernel_rfl) (H59.out.head.cell 0) (by rfl) (H59.out.head.frozen 0) ?_
        try simp only [Act.put]
        have H61 := WirS.hide (show Bag w (u58.setCell ⟨F, 0, none⟩ (.int .i64 cd)) (box FT F (f2 cd 0) :: [rfS R ra rc bs s1, ownt (.slice va vn vc) ls, box TC X (ccl HT HH (.slice va vn vc)), box FT A1 (f2 0 0), box TC A0 zcm]) from by have hb := bag_set H59.out 0 (.int .i64 cd); exact hb)
        clear H59
        generalize World.setCell u58 _ _ = u60 at *
        have d0 : u60.cell? ⟨F, 0, none⟩ = some (.int .i64 cd) := H61.out.head.cell 0
        by_cases hck : cd = 0
        · subst hck
          rw [if_neg (by simp)] at HD2
          go_upto_region 20 with fail
          have HZ62 : Hid (Bag w u60.drew [box FT F (f2 0 0), rfS R ra rc bs s1, ownt (.slice va vn vc) ls, box TC X (ccl HT HH (.slice va vn vc)), box FT A1 (f2 0 0), box TC A0 zcm]) := WirS.hide (H61.out.more (below_drewN (Below.refl _ _) 1))
          clear H61
          refine wp_region_noPanic ?_
          refine wp_region_held_drew (S := (fun U : World => U.rangeAt X 0 (ccl HT HH (.slice va vn vc)) ∧ U.rangeAt F 0 (f2 0 0))) (by kernel_rfl) ⟨(rangeAt0 (show At _ X TC (ccl HT HH (.slice va vn vc)) from (HZ62.out.all (box TC X (ccl HT HH (.slice va vn vc))) (by simp)).1)), (rangeAt0 (show At _ F FT (f2 0 0) from (HZ62.out.all (box FT F (f2 0 0)) (by simp)).1))⟩ (fun hHeld => ?_)
          generalize World.drew u60 = z63 at *
          refine' wpAnyH_take (i := 0) (oi := _) (v := .agg ((ccl HT HH (.slice va vn vc))).toArray) rfl (by kernel_rfl) (by kernel_rfl) (by kernel_rfl) (fun _ _ _ h => h) (yieldsIf_load_mid (by kernel_rfl) TC (.tmp 5) (by kernel_rfl) X 0 (by kernel_rfl) ((ccl HT HH (.slice va vn vc))) _ (fun _ h => h.1) UC (by kernel_rfl) ((by rw [ccl_len _ _ _ HHL.out]; kernel_rfl))) (by assumption) ?rest0
          case rest0 =>
          try simp only [List.getElem_toArray, List.getElem_cons_zero, Act.put, List.setIfInBounds_toArray, List.set_cons_zero, List.set_cons_succ]
          refine' wpAnyH_take (i := 1) (oi := _) (v := .agg ((f2 0 0)).toArray) rfl (by kernel_rfl) (by kernel_rfl) (by kernel_rfl) (fun _ _ _ h => h) (yieldsIf_load_mid (by kernel_rfl) FT (.tmp 10) (by kernel_rfl) F 0 (by kernel_rfl) ((f2 0 0)) _ (fun _ h => h.2) Try.underlying55 (by kernel_rfl) ((by rfl))) (by assumption) ?rest1
          case rest1 =>
          try simp only [List.getElem_toArray, List.getElem_cons_succ, List.getElem_cons_zero, Act.put, List.setIfInBounds_toArray, List.set_cons_zero, List.set_cons_succ]
          refine wpAnyH_ready (rs := [2]) (by kernel_rfl) (by simp) ?_
          refine AllReadyH.cons rfl (fun K hK => ?_) AllReadyH.nil
          rw [if_pos (by kernel_rfl)]
          have H64 := WirS.hide (HZ62.out.perm (show [box FT F (f2 0 0), rfS R ra rc bs s1, ownt (.slice va vn vc) ls, box TC X (ccl HT HH (.slice va vn vc)), box FT A1 (f2 0 0), box TC A0 zcm].Perm [box TC A0 zcm, box FT F (f2 0 0), rfS R ra rc bs s1, ownt (.slice va vn vc) ls, box TC X (ccl HT HH (.slice va vn vc)), box FT A1 (f2 0 0)] from ((List.perm_middle (l₁ := [box FT F (f2 0 0), rfS R ra rc bs s1, ownt (.slice va vn vc) ls, box TC X (ccl HT HH (.slice va vn vc)), box FT A1 (f2 0 0)])).trans (.cons _ ((List.perm_middle (l₁ := [])).trans (.cons _ ((List.perm_middle (l₁ := [])).trans (.cons _ ((List.perm_middle (l₁ := [])).trans (.cons _ ((List.perm_middle (l₁ := [])).trans (.cons _ ((List.perm_middle (l₁ := [])).trans (.cons _ (.refl _)))))))))))))))
          clear HZ62
          refine wp_store_row TC (.tmp 2) (.tmp 61) (by kernel_rfl) A0 (ccl HT HH (.slice va vn vc)).toArray (by kernel_rfl) (by kernel_rfl) TC zcm.toArray H64.out.head (by rw [List.size_toArray, ccl_len _ _ _ HHL.out]; kernel_rfl) (by rw [List.size_toArray, List.size_toArray, ccl_len _ _ _ HHL.out]; rfl) (one_ccl _ _ _ _ _) ?_
          have H65 := WirS.hide (bag_row H64.out (ccl HT HH (.slice va vn vc)))
          clear H64
          refine hK.out _ _ ⟨(rangeAt0 (show At _ X TC (ccl HT HH (.slice va vn vc)) from (H65.out.all (box TC X (ccl HT HH (.slice va vn vc))) (by simp)).1)), (rangeAt0 (show At _ F FT (f2 0 0) from (H65.out.all (box FT F (f2 0 0)) (by simp)).1))⟩ (fun hHeld => ?_)
          clear hK K
          try simp only [Act.put]
          generalize World.setRow z63 A0 _ = y66 at *
          refine wpAnyH_ready (rs := [3]) (by kernel_rfl) (by simp) ?_
          refine AllReadyH.cons rfl (fun K hK => ?_) AllReadyH.nil
          rw [if_pos (by kernel_rfl)]
          have H67 := WirS.hide (H65.out.perm (show [box TC A0 (ccl HT HH (.slice va vn vc)), box FT F (f2 0 0), rfS R ra rc bs s1, ownt (.slice va vn vc) ls, box TC X (ccl HT HH (.slice va vn vc)), box FT A1 (f2 0 0)].Perm [box FT A1 (f2 0 0), box TC A0 (ccl HT HH (.slice va vn vc)), box FT F (f2 0 0), rfS R ra rc bs s1, ownt (.slice va vn vc) ls, box TC X (ccl HT HH (.slice va vn vc))] from ((List.perm_middle (l₁ := [box TC A0 (ccl HT HH (.slice va vn vc)), box FT F (f2 0 0), rfS R ra rc bs s1, ownt (.slice va vn vc) ls, box TC X (ccl HT HH (.slice va vn vc))])).trans (.cons _ ((List.perm_middle (l₁ := [])).trans (.cons _ ((List.perm_middle (l₁ := [])).trans (.cons _ ((List.perm_middle (l₁ := [])).trans (.cons _ ((List.perm_middle (l₁ := [])).trans (.cons _ ((List.perm_middle (l₁ := [])).trans (.cons _ (.refl _)))))))))))))))
          clear H65
          refine wp_store_row FT (.tmp 3) (.tmp 62) (by kernel_rfl) A1 (f2 0 0).toArray (by kernel_rfl) (by kernel_rfl) FT (f2 0 0).toArray H67.out.head (by kernel_rfl) (by rfl) (by kernel_rfl) ?_
          have H68 := WirS.hide (bag_row H67.out (f2 0 0))
          clear H67
          refine hK.out _ _ ⟨(rangeAt0 (show At _ X TC (ccl HT HH (.slice va vn vc)) from (H68.out.all (box TC X (ccl HT HH (.slice va vn vc))) (by simp)).1)), (rangeAt0 (show At _ F FT (f2 0 0) from (H68.out.all (box FT F (f2 0 0)) (by simp)).1))⟩ (fun hHeld => ?_)
          clear hK K
          try simp only [Act.put]
          generalize World.setRow y66 A1 _ = y69 at *
          refine wpAnyH_done (by kernel_rfl) ?_ _
          refine NoPanic.normal ?_
          clear hHeld
          go_wp2_with fail
          refine bodyPost_ret (retRows (show At y69 A0 TC (ccl HT HH (.slice va vn vc)) from (H68.out.all (box TC A0 (ccl HT HH (.slice va vn vc))) (by simp)).1) (show At y69 A1 FT (f2 0 0) from (H68.out.all (box FT A1 (f2 0 0)) (by simp)).1) Try.results76 _ (by rfl) (by rfl) _ _ 34 2 UC rfl (by kernel_rfl) (ccl_len _ _ _ HHL.out) Try.underlying55 rfl (by kernel_rfl) (by rfl)) rfl ?_
          have h0 : (cE bs).1 = 0 := by rw [HD2.out]
          have ho : OwnT y69 (.slice va vn vc) ls := (H68.out.all (ownt (.slice va vn vc) ls) (by simp)).1
          have hn := (H68.out.all (ownt (.slice va vn vc) ls) (by simp)).2
          unfold CDP dht dhh dvs
          rw [if_pos h0, if_pos h0, if_pos h0, HD2.out, HDV.out.1, HDV.out.2, HEV.out]
          exact ⟨va, vn, vc, rfl, ho, fun q hq => hn q hq, H68.out.low⟩
        · have HNE := WirS.hide hck
          rw [if_pos (by simpa using hck)] at HD2
          have hn0 : (cd == 0) = false := by simpa using hck
          have hn1 : (cd != 0) = true := by simpa using hck
          clear hck
          go_upto_region 19 with fail
          have HZ70 : Hid (Bag w u60.drew [box FT F (f2 cd 0), rfS R ra rc bs s1, ownt (.slice va vn vc) ls, box TC X (ccl HT HH (.slice va vn vc)), box FT A1 (f2 0 0), box TC A0 zcm]) := WirS.hide (H61.out.more (below_drewN (Below.refl _ _) 1))
          clear H61
          refine wp_region_noPanic ?_
          refine wp_region_held_drew (S := (fun U : World => U.rangeAt F 0 (f2 cd 0))) (by kernel_rfl) (rangeAt0 (show At _ F FT (f2 cd 0) from (HZ70.out.all (box FT F (f2 cd 0)) (by simp)).1)) (fun hHeld => ?_)
          generalize World.drew u60 = z71 at *
          refine' wpAnyH_take (i := 0) (oi := _) (v := .agg zcm.toArray) rfl (by kernel_rfl) (by kernel_rfl) (by kernel_rfl) (fun _ _ _ h => h) (Or.inl ⟨by kernel_rfl, ?hy0⟩) (by assumption) ?rest0
          case hy0 =>
            intro W _
            kernel_rfl
          case rest0 =>
          try simp only [List.getElem_toArray, List.getElem_cons_zero, Act.put, List.setIfInBounds_toArray, List.set_cons_zero, List.set_cons_succ]
          refine' wpAnyH_take (i := 1) (oi := _) (v := .agg ((f2 cd 0)).toArray) rfl (by kernel_rfl) (by kernel_rfl) (by kernel_rfl) (fun _ _ _ h => h) (yieldsIf_load_mid (by kernel_rfl) FT (.tmp 10) (by kernel_rfl) F 0 (by kernel_rfl) ((f2 cd 0)) _ (fun _ h => h) Try.underlying55 (by kernel_rfl) ((by rfl))) (by assumption) ?rest1
          case rest1 =>
          try simp only [List.getElem_toArray, List.getElem_cons_succ, List.getElem_cons_zero, Act.put, List.setIfInBounds_toArray, List.set_cons_zero, List.set_cons_succ]
          refine wpAnyH_ready (rs := [2]) (by kernel_rfl) (by simp) ?_
          refine AllReadyH.cons rfl (fun K hK => ?_) AllReadyH.nil
          rw [if_pos (by kernel_rfl)]
          have H72 := WirS.hide (HZ70.out.perm (show [box FT F (f2 cd 0), rfS R ra rc bs s1, ownt (.slice va vn vc) ls, box TC X (ccl HT HH (.slice va vn vc)), box FT A1 (f2 0 0), box TC A0 zcm].Perm [box TC A0 zcm, box FT F (f2 cd 0), rfS R ra rc bs s1, ownt (.slice va vn vc) ls, box TC X (ccl HT HH (.slice va vn vc)), box FT A1 (f2 0 0)] from ((List.perm_middle (l₁ := [box FT F (f2 cd 0), rfS R ra rc bs s1, ownt (.slice va vn vc) ls, box TC X (ccl HT HH (.slice va vn vc)), box FT A1 (f2 0 0)])).trans (.cons _ ((List.perm_middle (l₁ := [])).trans (.cons _ ((List.perm_middle (l₁ := [])).trans (.cons _ ((List.perm_middle (l₁ := [])).trans (.cons _ ((List.perm_middle (l₁ := [])).trans (.cons _ ((List.perm_middle (l₁ := [])).trans (.cons _ (.refl _)))))))))))))))
          clear HZ70
          refine wp_store_row TC (.tmp 2) (.tmp 59) (by kernel_rfl) A0 zcm.toArray (by kernel_rfl) (by kernel_rfl) TC zcm.toArray H72.out.head (by kernel_rfl) (by rfl) (one_ccl _ _ _ _ _) ?_
          have H73 := WirS.hide (bag_row H72.out zcm)
          clear H72
          refine hK.out _ _ (rangeAt0 (show At _ F FT (f2 cd 0) from (H73.out.all (box FT F (f2 cd 0)) (by simp)).1)) (fun hHeld => ?_)
          clear hK K
          try simp only [Act.put]
          generalize World.setRow z71 A0 _ = y74 at *
          refine wpAnyH_ready (rs := [3]) (by kernel_rfl) (by simp) ?_
          refine AllReadyH.cons rfl (fun K hK => ?_) AllReadyH.nil
          rw [if_pos (by kernel_rfl)]
          have H75 := WirS.hide (H73.out.perm (show [box TC A0 zcm, box FT F (f2 cd 0), rfS R ra rc bs s1, ownt (.slice va vn vc) ls, box TC X (ccl HT HH (.slice va vn vc)), box FT A1 (f2 0 0)].Perm [box FT A1 (f2 0 0), box TC A0 zcm, box FT F (f2 cd 0), rfS R ra rc bs s1, ownt (.slice va vn vc) ls, box TC X (ccl HT HH (.slice va vn vc))] from ((List.perm_middle (l₁ := [box TC A0 zcm, box FT F (f2 cd 0), rfS R ra rc bs s1, ownt (.slice va vn vc) ls, box TC X (ccl HT HH (.slice va vn vc))])).trans (.cons _ ((List.perm_middle (l₁ := [])).trans (.cons _ ((List.perm_middle (l₁ := [])).trans (.cons _ ((List.perm_middle (l₁ := [])).trans (.cons _ ((List.perm_middle (l₁ := [])).trans (.cons _ ((List.perm_middle (l₁ := [])).trans (.cons _ (.refl _)))))))))))))))
          clear H73
          refine wp_store_row FT (.tmp 3) (.tmp 60) (by kernel_rfl) A1 (f2 cd 0).toArray (by kernel_rfl) (by kernel_rfl) FT (f2 0 0).toArray H75.out.head (by kernel_rfl) (by rfl) (by kernel_rfl) ?_
          have H76 := WirS.hide (bag_row H75.out (f2 cd 0))
          clear H75
          refine hK.out _ _ (rangeAt0 (show At _ F FT (f2 cd 0) from (H76.out.all (box FT F (f2 cd 0)) (by simp)).1)) (fun hHeld => ?_)
          clear hK K
          try simp only [Act.put]
          generalize World.setRow y74 A1 _ = y77 at *
          refine wpAnyH_done (by kernel_rfl) ?_ _
          refine NoPanic.normal ?_
          clear hHeld
          go_wp2_with fail
          refine bodyPost_ret (retRows (show At y77 A0 TC zcm from (H76.out.all (box TC A0 zcm) (by simp)).1) (show At y77 A1 FT (f2 cd 0) from (H76.out.all (box FT A1 (f2 cd 0)) (by simp)).1) Try.results76 _ (by rfl) (by rfl) _ _ 34 2 UC rfl (by kernel_rfl) (by rfl) Try.underlying55 rfl (by kernel_rfl) (by rfl)) rfl ?_
          exact cd_bad HD2.out HNE.out rfl H76.out.low
      · have HNE := WirS.hide hfe
        rw [if_pos (by simpa using hfe)] at HD2
        have hn0 : (fe == 0) = false := by simpa using hfe
        have hn1 : (fe != 0) = true := by simpa using hfe
        clear hfe
        have d0 : u56.cell? ⟨F, 0, none⟩ = some (.int .i64 fe) := (show At u56 F FT (f2 fe fa) from (H57.out.all (box FT F (f2 fe fa)) (by simp)).1).cell 0
        go_upto_region 19 with fail
        have HZ78 : Hid (Bag w u56.drew [box FT F (f2 fe fa), rfS R ra rc bs s1, ownt (.slice va vn vc) ls, box TC X (ccl HT HH (.slice va vn vc)), box FT A1 (f2 0 0), box TC A0 zcm]) := WirS.hide (H57.out.more (below_drewN (Below.refl _ _) 1))
        clear H57
        refine wp_region_noPanic ?_
        refine wp_region_held_drew (S := (fun U : World => U.rangeAt F 0 (f2 fe fa))) (by kernel_rfl) (rangeAt0 (show At _ F FT (f2 fe fa) from (HZ78.out.all (box FT F (f2 fe fa)) (by simp)).1)) (fun hHeld => ?_)
        generalize World.drew u56 = z79 at *
        refine' wpAnyH_take (i := 0) (oi := _) (v := .agg zcm.toArray) rfl (by kernel_rfl) (by kernel_rfl) (by kernel_rfl) (fun _ _ _ h => h) (Or.inl ⟨by kernel_rfl, ?hy0⟩) (by assumption) ?rest0
        case hy0 =>
          intro W _
          kernel_rfl
        case rest0 =>
        try simp only [List.getElem_toArray, List.getElem_cons_zero, Act.put, List.setIfInBounds_toArray, List.set_cons_zero, List.set_cons_succ]
        refine' wpAnyH_take (i := 1) (oi := _) (v := .agg ((f2 fe fa)).toArray) rfl (by kernel_rfl) (by kernel_rfl) (by kernel_rfl) (fun _ _ _ h => h) (yieldsIf_load_mid (by kernel_rfl) FT (.tmp 10) (by kernel_rfl) F 0 (by kernel_rfl) ((f2 fe fa)) _ (fun _ h => h) Try.underlying55 (by kernel_rfl) ((by rfl))) (by assumption) ?rest1
        case rest1 =>
        try simp only [List.getElem_toArray, List.getElem_cons_succ, List.getElem_cons_zero, Act.put, List.setIfInBounds_toArray, List.set_cons_zero, List.set_cons_succ]
        refine wpAnyH_ready (rs := [2]) (by kernel_rfl) (by simp) ?_
        refine AllReadyH.cons rfl (fun K hK => ?_) AllReadyH.nil
        rw [if_pos (by kernel_rfl)]
        have H80 := WirS.hide (HZ78.out.perm (show [box FT F (f2 fe fa), rfS R ra rc bs s1, ownt (.slice va vn vc) ls, box TC X (ccl HT HH (.slice va vn vc)), box FT A1 (f2 0 0), box TC A0 zcm].Perm [box TC A0 zcm, box FT F (f2 fe fa), rfS R ra rc bs s1, ownt (.slice va vn vc) ls, box TC X (ccl HT HH (.slice va vn vc)), box FT A1 (f2 0 0)] from ((List.perm_middle (l₁ := [box FT F (f2 fe fa), rfS R ra rc bs s1, ownt (.slice va vn vc) ls, box TC X (ccl HT HH (.slice va vn vc)), box FT A1 (f2 0 0)])).trans (.cons _ ((List.perm_middle (l₁ := [])).trans (.cons _ ((List.perm_middle (l₁ := [])).trans (.cons _ ((List.perm_middle (l₁ := [])).trans (.cons _ ((List.perm_middle (l₁ := [])).trans (.cons _ ((List.perm_middle (l₁ := [])).trans (.cons _ (.refl _)))))))))))))))
        clear HZ78
        refine wp_store_row TC (.tmp 2) (.tmp 59) (by kernel_rfl) A0 zcm.toArray (by kernel_rfl) (by kernel_rfl) TC zcm.toArray H80.out.head (by kernel_rfl) (by rfl) (one_ccl _ _ _ _ _) ?_
        have H81 := WirS.hide (bag_row H80.out zcm)
        clear H80
        refine hK.out _ _ (rangeAt0 (show At _ F FT (f2 fe fa) from (H81.out.all (box FT F (f2 fe fa)) (by simp)).1)) (fun hHeld => ?_)
        clear hK K
        try simp only [Act.put]
        generalize World.setRow z79 A0 _ = y82 at *
        refine wpAnyH_ready (rs := [3]) (by kernel_rfl) (by simp) ?_
        refine AllReadyH.cons rfl (fun K hK => ?_) AllReadyH.nil
        rw [if_pos (by kernel_rfl)]
        have H83 := WirS.hide (H81.out.perm (show [box TC A0 zcm, box FT F (f2 fe fa), rfS R ra rc bs s1, ownt (.slice va vn vc) ls, box TC X (ccl HT HH (.slice va vn vc)), box FT A1 (f2 0 0)].Perm [box FT A1 (f2 0 0), box TC A0 zcm, box FT F (f2 fe fa), rfS R ra rc bs s1, ownt (.slice va vn vc) ls, box TC X (ccl HT HH (.slice va vn vc))] from ((List.perm_middle (l₁ := [box TC A0 zcm, box FT F (f2 fe fa), rfS R ra rc bs s1, ownt (.slice va vn vc) ls, box TC X (ccl HT HH (.slice va vn vc))])).trans (.cons _ ((List.perm_middle (l₁ := [])).trans (.cons _ ((List.perm_middle (l₁ := [])).trans (.cons _ ((List.perm_middle (l₁ := [])).trans (.cons _ ((List.perm_middle (l₁ := [])).trans (.cons _ ((List.perm_middle (l₁ := [])).trans (.cons _ (.refl _)))))))))))))))
        clear H81
        refine wp_store_row FT (.tmp 3) (.tmp 60) (by kernel_rfl) A1 (f2 fe fa).toArray (by kernel_rfl) (by kernel_rfl) FT (f2 0 0).toArray H83.out.head (by kernel_rfl) (by rfl) (by kernel_rfl) ?_
        have H84 := WirS.hide (bag_row H83.out (f2 fe fa))
        clear H83
        refine hK.out _ _ (rangeAt0 (show At _ F FT (f2 fe fa) from (H84.out.all (box FT F (f2 fe fa)) (by simp)).1)) (fun hHeld => ?_)
        clear hK K
        try simp only [Act.put]
        generalize World.setRow y82 A1 _ = y85 at *
        refine wpAnyH_done (by kernel_rfl) ?_ _
        refine NoPanic.normal ?_
        clear hHeld
        go_wp2_with fail
        refine bodyPost_ret (retRows (show At y85 A0 TC zcm from (H84.out.all (box TC A0 zcm) (by simp)).1) (show At y85 A1 FT (f2 fe fa) from (H84.out.all (box FT A1 (f2 fe fa)) (by simp)).1) Try.results76 _ (by rfl) (by rfl) _ _ 34 2 UC rfl (by kernel_rfl) (by rfl) Try.underlying55 rfl (by kernel_rfl) (by rfl)) rfl ?_
        exact cd_bad HD2.out HNE.out rfl H84.out.low
end CmDd
end Go.Proofs.Ythcemghamdmjmaa

namespace Go.Proofs.Ythcemghamdmjmaa
namespace CmOv
open Go.RowKit
open BlkM WirM WirS CmA CmP CmB CmI

def MidOv (W0 : World) (X : Nat) (cs : List Value) (g n : Nat) (i : Value) (U : World) : Prop := ∃ (k : Nat) (cur : Array Value), k ≤ n ∧ i = .int .i64 (k : Int) ∧ U.heap[g]? = some (.cells cur TV) ∧ n * 2 ≤ cur.size ∧ At U X TC cs ∧ Fr (fun k => k = g) W0 U
theorem row_cell {U : World} {g j : Nat} {cur : Array Value} {T : TypeId} (h : U.heap[g]? = some (.cells cur T)) (hj : j < cur.size) : (∃ v, U.cell? ⟨g, j, none⟩ = some v) ∧ U.frozen? ⟨g, j, none⟩ = false := by
  refine ⟨⟨cur[j], ?_⟩, by simp [World.frozen?, h]⟩
  simp only [World.cell?, h]
  simp [hj]
set_option maxRecDepth 10000 in
set_option maxHeartbeats 2000000 in
theorem over_any (w : World) (ht : Int) (h : List Int) (a : Option Addr) (n c : Nat) (vs : List Vt) (hl : h.length = 32) (hv : OwnT w (.slice a n c) vs) (hn : n ≤ 1000) :
    Calls Try.prog 77 #[.agg (ccl ht h (.slice a n c)).toArray] w fun e w' => e = .returned (.tuple #[]) ∧ Fr (fun k => (Value.slice a n c).ownBlock = some k) w w' := by
  obtain ⟨W0, e0⟩ : ∃ X, X = w.alloc (.cells (ccl ht h (.slice a n c)).toArray TC) := ⟨_, rfl⟩
  have hA : At W0 w.heap.size TC (ccl ht h (.slice a n c)) := by rw [e0]; exact At.new w _ _
  have hB : Below w.heap.size w W0 := by rw [e0]; exact Below.alloc (Below.refl _ _) (Nat.le_refl _) _
  have k33 : W0.cell? ⟨w.heap.size, 33, none⟩ = some (.slice a n c) := (hA.cell 33).trans (ccl_33 _ _ _ hl)
  have E0 := WirS.hide e0
  have HB := WirS.hide hB
  by_cases h0 : n = 0
  · subst h0
    clear hv hA hB e0
    go_enter Try.func77, Try.ntmps77
    go_upto_region 1 with fail
    rw [← E0.out]
    go_wp2_with fail
    refine wp_loop_rounds 1 ?_
    rw [rounds_succ]
    go_wp2_with fail
    first | go_end0 | refine bodyPost_ret (results_none rfl _ _ _) rfl ?_
    exact ⟨rfl, Fr.of_below HB.out⟩
  · obtain ⟨g, cur, rfl, hg, hs⟩ : ∃ g cur, a = some ⟨g, 0, none⟩ ∧ w.heap[g]? = some (.cells cur TV) ∧ n * 2 ≤ cur.size := by
      obtain ⟨⟨hl2, ⟨e, _⟩ | ⟨g, cap, cur, e, hb, hg, h1, h2, h3, h4⟩⟩, _⟩ := hv
      · cases e
        exact absurd rfl h0
      · cases e
        exact ⟨g, cur, rfl, hg, by omega⟩
    have hgl : g < w.heap.size := (Array.getElem?_eq_some_iff.1 hg).1
    have HGL := WirS.hide hgl
    have HST := WirS.hide (show MidOv W0 w.heap.size (ccl ht h (.slice (some ⟨g, 0, none⟩) n c)) g n (.int .i64 0) W0 from ⟨0, cur, Nat.zero_le _, rfl, (hB.block g hgl).trans hg, hs, hA, Fr.refl _ _⟩)
    have HLn := WirS.hide hl
    clear hg hs hv hA hB e0 hgl hl
    go_enter Try.func77, Try.ntmps77
    go_upto_region 1 with fail
    rw [← E0.out]
    go_wp2_with fail
    go_loopw [2] (fun i wr => MidOv W0 w.heap.size (ccl ht h (.slice (some ⟨g, 0, none⟩) n c)) g n i wr) (fun i _ => n - (intOf i).toNat)
    case atStart => exact HST.out
    case round =>
      clear HST k33
      obtain ⟨k, cur, hk, rfl, hg, hs, hA, hf⟩ := hrel
      have HF := WirS.hide hf
      have k33 : wr.cell? ⟨w.heap.size, 33, none⟩ = some (.slice (some ⟨g, 0, none⟩) n c) := (hA.cell 33).trans (ccl_33 _ _ _ HLn.out)
      have HA := WirS.hide hA
      by_cases hlt : k < n
      · obtain ⟨⟨v0, c0⟩, f0⟩ := row_cell (j := k * 2) hg (by omega)
        obtain ⟨⟨v1, c1⟩, f1⟩ := row_cell (j := k * 2 + 1) hg (by omega)
        have hkl : (k : Int) < (n : Int) := by omega
        have HG := WirS.hide hg
        have HS := WirS.hide hs
        have hne : w.heap.size ≠ g := by have := HGL.out; omega
        have HNE := WirS.hide hne
        clear hg hs hf hA hne
        go_wp2_with fail
        go_roundw
        case rel =>
          refine ⟨k + 1, _, by omega, by go_num, heap_setCell_same _ _ _ _ _ _ (heap_setCell_same _ _ _ _ _ _ HG.out), by simpa using HS.out, (HA.out.setCell_other HNE.out _ _).setCell_other HNE.out _ _, ?_⟩
          exact (HF.out.setCell g _ _ (fun _ => rfl)).setCell g _ _ (fun _ => rfl)
        case measure => simp [intOf]; omega
      · have hkl : ¬ (k : Int) < (n : Int) := by omega
        clear hg hs hf hA
        go_wp2_with fail
        first | go_end0 | refine bodyPost_ret (results_none rfl _ _ _) rfl ?_
        exact ⟨rfl, (Fr.of_below HB.out).trans (HF.out.mono (fun q _ hq => by rw [hq]; rfl))⟩
end CmOv
end Go.Proofs.Ythcemghamdmjmaa

