/-
  CmT, CmU, CmV, in one text.
-/
import Derived.Test.YtplinpbmncccoaaCmB
import Derived.BigQuiet
import Derived.Test.YtplinpbmncccoaaCmJ
namespace Go.Proofs.Ytplinpbmncccoaa
namespace CmT
open Go.RowKit
open BlkM WirM WirS CmA CmP CmB

def MidRo (W0 : World) (vs : List Vt) (at0 : Int) (n : Nat) (i : Value) (U : World) : Prop :=
  ∃ k : Nat, k ≤ n ∧ i = .int .i64 (k : Int) ∧ ofV at0 vs = ofV at0 (vs.drop k) ∧ Below W0.heap.size W0 U
set_option maxRecDepth 10000 in
set_option maxHeartbeats 4000000 in
theorem rof_any (w : World) (ht : Int) (h : List Int) (a : Option Addr) (n c : Nat) (vs : List Vt) (at0 : Int) (hl : h.length = 32) (hv : VtIn w a n c vs) :
    Calls Try.prog 66 #[.agg (ccl ht h (.slice a n c)).toArray, .int .i64 at0] w fun e w' => e = .returned (.tuple #[.int .u64 (ofS at0 vs), .bool (ofV at0 vs).isSome]) ∧ Below w.heap.size w w' := by
  have hlen := hv.len
  have hns : n ≤ 9223372036854775807 := Nat.le_trans hv.cap hv.small
  obtain ⟨W0, e0⟩ : ∃ X, X = w.alloc (.cells (ccl ht h (.slice a n c)).toArray TC) := ⟨_, rfl⟩
  have hA : At W0 w.heap.size TC (ccl ht h (.slice a n c)) := by rw [e0]; exact At.new w _ _
  have hB : Below w.heap.size w W0 := by rw [e0]; exact Below.alloc (Below.refl _ _) (Nat.le_refl _) _
  have HK := WirS.hide (fun (U : World) (hU : Below W0.heap.size W0 U) => ((hA.below hU hA.lt).cell 33).trans (ccl_33 _ _ _ hl))
  have HV := WirS.hide (hv.below hB)
  have HB := WirS.hide hB
  have E0 := WirS.hide e0
  have HL := WirS.hide hlen
  have HST := WirS.hide (show MidRo W0 vs at0 n (.int .i64 0) W0 from ⟨0, Nat.zero_le _, rfl, rfl, Below.refl _ _⟩)
  obtain ⟨rs, hrs⟩ : ∃ r, ofS at0 vs = r := ⟨_, rfl⟩
  obtain ⟨rb, hrb⟩ : ∃ r, (ofV at0 vs).isSome = r := ⟨_, rfl⟩
  rw [hrs, hrb]
  have HRS := WirS.hide hrs
  have HRB := WirS.hide hrb
  clear hA hB e0 hv hlen hl hrs hrb
  go_enter Try.func66, Try.ntmps66
  go_upto_region 1 with fail
  rw [← E0.out]
  go_wp2_with fail
  go_loopw [6] (fun i wr => MidRo W0 vs at0 n i wr) (fun i _ => n - (intOf i).toNat)
  case atStart => exact HST.out
  case round =>
    clear HST
    obtain ⟨k, hk, rfl, hE, hBw⟩ := hrel
    have k33 : wr.cell? ⟨w.heap.size, 33, none⟩ = some (.slice a n c) := HK.out wr hBw
    by_cases hlt : k < n
    · obtain ⟨x, B, o, hx, hmem, rfl, hBl, hr⟩ := (HV.out.below hBw).cell hlt
      have r0 : wr.cell? ⟨B, o + k * 2, none⟩ = some (.int .i64 x.at') := hr 0 _ rfl
      have r1 : wr.cell? ⟨B, o + k * 2 + 1, none⟩ = some (.int .u64 x.sg) := hr 1 _ rfl
      have hkl : (k : Int) < (n : Int) := by omega
      have HB2 := WirS.hide hBw
      rw [drop_get hx, ofV] at hE
      by_cases h0 : x.at' = at0
      · rw [if_pos h0] at hE
        have d0 : (x.at' == at0) = true := by simpa using h0
        have HE := WirS.hide hE
        clear hr hx hmem hE h0 hBw
        go_wp2_with fail
        refine bodyPost_ret (v := .tuple #[.int .u64 x.sg, .bool true]) (by simp [results, Try.results66, go_sem]) rfl ?_
        exact ⟨by rw [← HRS.out, ← HRB.out, ofS, HE.out]; rfl, HB.out.trans (HB2.out.mono HB.out.size)⟩
      · rw [if_neg h0] at hE
        have d0 : (x.at' == at0) = false := by simpa using h0
        have HE := WirS.hide hE
        clear hr hx hmem hE h0 hBw
        go_wp2_with fail
        go_roundw
        case rel => exact ⟨k + 1, by omega, by go_num, HE.out, HB2.out⟩
        case measure => simp [intOf]; omega
    · have hd : vs.drop k = [] := List.drop_eq_nil_of_le (by rw [HL.out]; omega)
      rw [hd, ofV] at hE
      have HE := WirS.hide hE
      have HBB := WirS.hide hBw
      clear hE hBw hd
      go_wp2_with fail
      refine bodyPost_ret (v := .tuple #[.int .u64 0, .bool false]) (by simp [results, Try.results66, go_sem]) rfl ?_
      exact ⟨by rw [← HRS.out, ← HRB.out, ofS, HE.out]; rfl, HB.out.trans (HBB.out.mono HB.out.size)⟩

def MidRc (W0 : World) (vs : List Vt) (n : Nat) (i : Value) (U : World) : Prop :=
  ∃ (k : Nat) (p : Int), k ≤ n ∧ i = .int .i64 (k : Int) ∧ (k = 0 → p = -1) ∧ (0 < k → vs[k - 1]?.map (·.at') = some p) ∧ chkV (-1) vs = chkV p (vs.drop k) ∧ Below W0.heap.size W0 U
set_option maxRecDepth 10000 in
set_option maxHeartbeats 8000000 in
theorem rcheck_any (w : World) (ht : Int) (h : List Int) (a : Option Addr) (n c : Nat) (vs : List Vt) (hl : h.length = 32) (hv : VtIn w a n c vs) :
    Calls Try.prog 73 #[.agg (ccl ht h (.slice a n c)).toArray] w fun e w' => e = .returned (.int .i64 (chk ht vs)) ∧ Below w.heap.size w w' := by
  have hlen := hv.len
  obtain ⟨W0, e0⟩ : ∃ X, X = w.alloc (.cells (ccl ht h (.slice a n c)).toArray TC) := ⟨_, rfl⟩
  have hA : At W0 w.heap.size TC (ccl ht h (.slice a n c)) := by rw [e0]; exact At.new w _ _
  have hB : Below w.heap.size w W0 := by rw [e0]; exact Below.alloc (Below.refl _ _) (Nat.le_refl _) _
  have k0 : W0.cell? ⟨w.heap.size, 0, none⟩ = some (.int .i64 ht) := (hA.cell 0).trans (ccl_0 _ _ _)
  have k33 : W0.cell? ⟨w.heap.size, 33, none⟩ = some (.slice a n c) := (hA.cell 33).trans (ccl_33 _ _ _ hl)
  have HK := WirS.hide (fun (U : World) (hU : Below W0.heap.size W0 U) => ((hA.below hU hA.lt).cell 33).trans (ccl_33 _ _ _ hl))
  have hXl := hA.lt
  have HB := WirS.hide hB
  have HV := WirS.hide (hv.below hB)
  have E0 := WirS.hide e0
  have HL := WirS.hide hlen
  have hC : chk ht vs = if ¬(1 ≤ ht ∧ ht ≤ 1073741824) then 3 else if 64 < n then 4 else chkV (-1) vs := by rw [← hlen]; rfl
  rw [hC]
  clear hA hB e0 hv hlen hC hl
  by_cases h1 : ht < 1
  · have d1 : decide (ht < 1) = true := by simpa using h1
    rw [if_pos (by omega)]
    go_enter Try.func73, Try.ntmps73
    go_upto_region 1 with fail
    rw [← E0.out]
    go_wp2_with fail
    go_ret
    exact ⟨rfl, HB.out⟩
  have d1 : decide (ht < 1) = false := by simpa using h1
  by_cases h2 : 1073741824 < ht
  · have d2 : decide ((1073741824 : Int) < ht) = true := by simpa using h2
    rw [if_pos (by omega)]
    go_enter Try.func73, Try.ntmps73
    go_upto_region 1 with fail
    rw [← E0.out]
    go_wp2_with fail
    go_ret
    exact ⟨rfl, HB.out⟩
  have d2 : decide ((1073741824 : Int) < ht) = false := by simpa using h2
  rw [if_neg (by omega)]
  by_cases h3 : 64 < n
  · have e2 : (64 : Int) < (n : Int) := by omega
    rw [if_pos h3]
    go_enter Try.func73, Try.ntmps73
    go_upto_region 1 with fail
    rw [← E0.out]
    go_wp2_with fail
    go_ret
    exact ⟨rfl, HB.out⟩
  have e2 : ¬ (64 : Int) < (n : Int) := by omega
  rw [if_neg h3]
  obtain ⟨cd, hcd⟩ : ∃ cd, chkV (-1) vs = cd := ⟨_, rfl⟩
  rw [hcd]
  have HCD := WirS.hide hcd
  have HST := WirS.hide (show MidRc W0 vs n (.int .i64 0) W0 from ⟨0, -1, Nat.zero_le _, rfl, fun _ => rfl, fun h => absurd h (by omega), rfl, Below.refl _ _⟩)
  clear hcd
  go_enter Try.func73, Try.ntmps73
  go_upto_region 1 with fail
  rw [← E0.out]
  go_wp2_with fail
  go_loopw [3] (fun i wr => MidRc W0 vs n i wr) (fun i _ => n - (intOf i).toNat)
  case atStart => exact HST.out
  case round =>
    clear HST k0 k33 d1 d2
    obtain ⟨k, p, hk, rfl, hp0, hp1, hE, hBw⟩ := hrel
    have k33 : wr.cell? ⟨w.heap.size, 33, none⟩ = some (.slice a n c) := HK.out wr hBw
    by_cases hlt : k < n
    · obtain ⟨x, B, o, hx, hmem, rfl, hBl, hr⟩ := (HV.out.below hBw).cell hlt
      have r0 : wr.cell? ⟨B, o + k * 2, none⟩ = some (.int .i64 x.at') := hr 0 _ rfl
      have hkl : (k : Int) < (n : Int) := by omega
      have hk63 : k ≤ 64 := by omega
      have HX := WirS.hide hx
      have HBw := WirS.hide hBw
      rw [drop_get hx, chkV] at hE
      by_cases ha : x.at' < 0
      · have d1 : decide (x.at' < 0) = true := by simpa using ha
        have HE := WirS.hide (show chkV (-1) vs = 3 by rw [hE, if_pos (by omega)])
        clear hE hx hr hmem hBw hp0 hp1
        go_wp2_with fail
        go_ret
        exact ⟨by rw [← HCD.out, HE.out]; rfl, HB.out.trans (HBw.out.mono HB.out.size)⟩
      have d1 : decide (x.at' < 0) = false := by simpa using ha
      by_cases hb : 64 ≤ x.at'
      · have d2 : decide ((64 : Int) ≤ x.at') = true := by simpa using hb
        have HE := WirS.hide (show chkV (-1) vs = 3 by rw [hE, if_pos (by omega)])
        clear hE hx hr hmem hBw hp0 hp1
        go_wp2_with fail
        go_ret
        exact ⟨by rw [← HCD.out, HE.out]; rfl, HB.out.trans (HBw.out.mono HB.out.size)⟩
      have d2 : decide ((64 : Int) ≤ x.at') = false := by simpa using hb
      rw [if_neg (by omega)] at hE
      by_cases hk0 : k = 0
      · subst hk0
        obtain rfl : p = -1 := hp0 rfl
        rw [if_neg (by omega)] at hE
        rw [Nat.zero_mul, Nat.add_zero] at r0
        have HE := WirS.hide hE
        clear hE hx hr hmem hBw hp0 hp1
        go_wp2_with fail
        go_quiet (fail)
        go_wp2_with fail
        go_roundw
        case rel => exact ⟨0 + 1, x.at', by omega, by first | rfl | go_num, fun h => absurd h (by omega), fun _ => by rw [Nat.add_sub_cancel, HX.out]; rfl, HE.out, below_drewN HBw.out _⟩
        case measure => simp [intOf]; omega
      · obtain ⟨y, B', o', hy, hmemy, e, _, hs⟩ := (HV.out.below hBw).cell (i := k - 1) (by omega)
        cases e
        have hzz : decide ((0 : Int) < (k : Int)) = true := by simp; omega
        have hzn : 0 < k := by omega
        have hkn : k - 1 < n := by omega
        have hix2 : (k : Int) - 1 < (n : Int) := by omega
        have hix : (0 : Int) ≤ (k : Int) - 1 := by omega
        have htn : ((k : Int) - 1).toNat = k - 1 := by omega
        have hwr : IntKind.i64.wrap ((k : Int) - 1) = (k : Int) - 1 := IntWalk.i64_in _ (by omega)
        obtain rfl : p = y.at' := by
          have := hp1 hzn
          rw [hy] at this
          exact (Option.some.inj this).symm
        have s0 : wr.cell? ⟨B, o + (k - 1) * 2, none⟩ = some (.int .i64 y.at') := hs 0 _ rfl
        clear hs hy hmemy
        by_cases hle : x.at' ≤ y.at'
        · have d3 : decide (x.at' ≤ y.at') = true := by simpa using hle
          rw [if_pos hle] at hE
          have HE := WirS.hide hE
          clear hE hx hr hmem hBw hp0 hp1
          go_wp2_with fail
          go_quiet (fail)
          go_wp2_with fail
          go_ret
          exact ⟨by rw [← HCD.out, HE.out]; rfl, HB.out.trans ((below_drewN HBw.out _).mono HB.out.size)⟩
        · have d3 : decide (x.at' ≤ y.at') = false := by simpa using hle
          rw [if_neg hle] at hE
          have HE := WirS.hide hE
          clear hE hx hr hmem hBw hp0 hp1
          go_wp2_with fail
          go_quiet (fail)
          go_wp2_with fail
          go_roundw
          case rel => exact ⟨k + 1, x.at', by omega, by go_num, fun h => absurd h (by omega), fun _ => by rw [Nat.add_sub_cancel, HX.out]; rfl, HE.out, below_drewN HBw.out _⟩
          case measure => simp [intOf]; omega
    · have hd : vs.drop k = [] := List.drop_eq_nil_of_le (by rw [HL.out]; omega)
      rw [hd, chkV] at hE
      have HE := WirS.hide hE
      have HBB := WirS.hide hBw
      clear hE hBw hp0 hp1 hd
      go_wp2_with fail
      go_ret
      exact ⟨by rw [← HCD.out, HE.out]; rfl, HB.out.trans (HBB.out.mono HB.out.size)⟩
end CmT
end Go.Proofs.Ytplinpbmncccoaa

namespace Go.Proofs.Ytplinpbmncccoaa
namespace CmU
open Go.RowKit
open BlkM WirM WirS CmA CmP CmB CmE CmI CmJ
open WirX (Thg Bag)
open WirAA (box bag_box bag_set)
open WirAB (sCx)

section
variable {ops : Array Oper} {Q : Exit → Act → World → Prop} {rest : List Oper} {o : Oper} {a : Act} {w : World}
theorem sSl {x y : Operand} (hw : Region.wanted o (yielded ops a.tmps) = true) (ho : o.op = .store TL x y) (M k : Nat) (b : Option Addr) (n c : Nat) (c0 : Option Value) (hx : a.eval x = .pointer (some ⟨M, k, none⟩)) (hy : a.eval y = .slice b n c)
    (hc : w.cell? ⟨M, k, none⟩ = c0) (hs : c0.isSome = true) (hf : w.frozen? ⟨M, k, none⟩ = false) (h : wpList Try.prog ops Q rest (a.put o.dst undef) (w.setCell ⟨M, k, none⟩ (.slice b n c))) : wpList Try.prog ops Q (o :: rest) a w :=
  stepW hw fun _ hK => store_sl ho M k b n c c0 hx hy hc hs hf (hK _ _ h)
end
set_option maxRecDepth 10000 in
set_option maxHeartbeats 4000000 in
theorem copy_any (w : World) (ht : Int) (h : List Int) (a : Option Addr) (n c : Nat) (vs : List Vt) (hl : h.length = 32) (hv : VtIn w a n c vs) (hn : n ≤ 1000) :
    Calls Try.prog 64 #[.agg (ccl ht h (.slice a n c)).toArray] w fun e w' => ∃ va vc, e = .returned (.agg (ccl ht h (.slice va n vc)).toArray) ∧ OwnT w' (.slice va n vc) vs ∧ NewB w (.slice va n vc) ∧ Below w.heap.size w w' := by
  have HL := WirS.hide hl
  have hbX := bag_box (w0 := w) (T := TC) (cs := ccl ht h (.slice a n c)) (X := w.heap.size) (Bag.nil (Below.refl _ _)) rfl (w' := w.alloc (.cells (ccl ht h (.slice a n c)).toArray TC)) (At.new _ _ _) (Below.alloc (Below.refl _ _) (Nat.le_refl _) _)
  have HAP := WirS.hide (fun (U : World) (E : Nat) (hU : Below w.heap.size w U) (ho : OwnT U (.slice (some ⟨E, 0, none⟩) 0 0) []) => show ∃ va vc u1, (Builtin.append_ #[TL, TL] TL #[.slice (some ⟨E, 0, none⟩) 0 0, .slice a n c]).run Try.prog U = .ok (.slice va n vc) u1 ∧ OwnT u1 (.slice va n vc) vs ∧ Fr (fun k => (Value.slice (some ⟨E, 0, none⟩) 0 0).ownBlock = some k) U u1 ∧ NewOr U (.slice (some ⟨E, 0, none⟩) 0 0) (.slice va n vc) from by
    obtain ⟨v1, u1, hrun, hO, hf, hn'⟩ := app_votes U TL TL (.slice (some ⟨E, 0, none⟩) 0 0) (.slice a n c) [] vs ho ((hv.below hU).src Try.underlying93) hv.ok (by have := hv.len; simp; omega)
    rw [List.nil_append] at hO
    obtain ⟨va, vc, rfl⟩ := hO.len_of
    rw [hv.len] at hrun hO hn'
    exact ⟨va, vc, u1, hrun, hO, hf, hn'⟩)
  clear hl hv
  go_enter Try.func64, Try.ntmps64
  go_upto_region 0 with fail
  refine wp_region_lit ?_
  refine sV (.pointer (some ⟨w.heap.size, 0, none⟩)) (w.alloc (.cells (ccl ht h (.slice a n c)).toArray TC)) (by kernel_rfl) (by kernel_rfl) ?_
  simp only [Act.put, List.setIfInBounds_toArray, List.set_cons_succ, List.set_cons_zero]
  obtain ⟨X, eX⟩ : ∃ A, w.heap.size = A := ⟨_, rfl⟩
  rw [eX] at hbX ⊢
  clear eX
  generalize World.alloc w _ = x1 at *
  refine sV (.pointer (some ⟨x1.heap.size, 0, none⟩)) (x1.alloc (.cells zcm.toArray TC)) (by kernel_rfl) (by kernel_rfl) ?_
  simp only [Act.put, List.setIfInBounds_toArray, List.set_cons_succ, List.set_cons_zero]
  obtain ⟨Z, eZ⟩ : ∃ A, x1.heap.size = A := ⟨_, rfl⟩
  have hbZ := bag_box (T := TC) (cs := zcm) (X := Z) hbX eZ.symm (w' := x1.alloc (.cells zcm.toArray TC)) (by rw [← eZ]; exact At.new _ _ _) (Below.alloc (Below.refl _ _) (Nat.le_refl _) _)
  rw [eZ]
  clear eZ hbX
  generalize World.alloc x1 _ = x2 at *
  have H2 := WirS.hide hbZ
  clear hbZ
  go_upto_region 1 with fail
  refine wp_region_lit ?_
  refine sV (.slice (some ⟨x2.heap.size, 0, none⟩) 0 0) (x2.alloc (.cells #[] TV)) (by kernel_rfl) (by kernel_rfl) ?_
  simp only [Act.put, List.setIfInBounds_toArray, List.set_cons_succ, List.set_cons_zero]
  have hb3 := bag_ownt H2.out (ownt_new x2) (fun q hq => by simp [Value.ownBlock] at hq; omega) (Below.alloc (Below.refl _ _) (Nat.le_refl _) _)
  obtain ⟨E, eE⟩ : ∃ A, x2.heap.size = A := ⟨_, rfl⟩
  rw [eE] at hb3 ⊢
  clear eE
  generalize World.alloc x2 _ = x3 at *
  have H3 := WirS.hide hb3
  clear hb3 H2
  obtain ⟨va, vc, u1, hrun, hO, hf, hn'⟩ := HAP.out x3 E H3.out.low H3.out.head
  have HRUN := WirS.hide hrun
  have HB4 := WirS.hide (H3.out.act (o' := ownt (.slice va n vc) vs) hf hO hn')
  clear hrun hO hf hn' HAP
  refine sV (.pointer (some ⟨X, 33, none⟩)) (x3) (by kernel_rfl) (by kernel_rfl) ?_
  simp only [Act.put, List.setIfInBounds_toArray, List.set_cons_succ, List.set_cons_zero]
  refine sP (by kernel_rfl) _ _ (by rfl) ⟨X, 33, none⟩ (by kernel_rfl) (.slice a n c) ((H3.out.drop.drop.head.cell 33).trans (ccl_33 _ _ _ HL.out)) (by kernel_rfl) ?_
  simp only [Act.put, List.setIfInBounds_toArray, List.set_cons_succ, List.set_cons_zero]
  refine sA (by kernel_rfl) TL TL _ _ (by rfl) (.slice (some ⟨E, 0, none⟩) 0 0) (.slice a n c) (by kernel_rfl) (by kernel_rfl) (.slice va n vc) (u1) HRUN.out ?_
  simp only [Act.put, List.setIfInBounds_toArray, List.set_cons_succ, List.set_cons_zero]
  clear HRUN H3
  refine sV (.pointer (some ⟨X, 33, none⟩)) (u1) (by kernel_rfl) (by kernel_rfl) ?_
  simp only [Act.put, List.setIfInBounds_toArray, List.set_cons_succ, List.set_cons_zero]
  have HB5 := WirS.hide (HB4.out.perm (show [ownt (.slice va n vc) vs, box TC Z zcm, box TC X (ccl ht h (.slice a n c))].Perm [box TC X (ccl ht h (.slice a n c)), ownt (.slice va n vc) vs, box TC Z zcm] from List.perm_append_comm (l₁ := [ownt (.slice va n vc) vs, box TC Z zcm]) (l₂ := [box TC X (ccl ht h (.slice a n c))])))
  clear HB4
  refine sSl (x := .tmp 7) (y := .tmp 6) (by kernel_rfl) (by kernel_rfl) X 33 va n vc _ (by kernel_rfl) (by kernel_rfl) (HB5.out.head.cell 33) (by rw [ccl_33 _ _ _ HL.out]; rfl) (HB5.out.head.frozen 33) ?_
  have hb6 := bag_set HB5.out 33 (.slice va n vc)
  rw [ccl_set _ _ _ _ HL.out] at hb6
  have HB6 := WirS.hide hb6
  clear hb6 HB5
  try simp only [Act.put]
  generalize World.setCell u1 _ _ = y1 at *
  go_upto_region 2 with fail
  refine wp_region_lit ?_
  refine sL (by kernel_rfl) _ _ (by rfl) _ (by kernel_rfl) HB6.out.head _ _ UC rfl (by kernel_rfl) (by rw [ccl_len _ _ _ HL.out]) ?_
  simp only [Act.put, List.setIfInBounds_toArray, List.set_cons_succ, List.set_cons_zero]
  have HBZ := WirS.hide (HB6.out.perm (show [box TC X (ccl ht h (.slice va n vc)), ownt (.slice va n vc) vs, box TC Z zcm].Perm [box TC Z zcm, box TC X (ccl ht h (.slice va n vc)), ownt (.slice va n vc) vs] from List.perm_append_comm (l₁ := [box TC X (ccl ht h (.slice va n vc)), ownt (.slice va n vc) vs]) (l₂ := [box TC Z zcm])))
  clear HB6
  refine stepStore (by rfl) _ _ _ (by rfl) Z (ccl ht h (.slice va n vc)) (by kernel_rfl) (by kernel_rfl) HBZ.out.head 34 (by kernel_rfl) (by rfl) (ccl_len _ _ _ HL.out) (one_ccl _ _ _ _ _) ?_
  simp only [Act.put]
  have HF := WirS.hide (bag_row HBZ.out (ccl ht h (.slice va n vc)))
  clear HBZ
  generalize World.setRow y1 Z _ = xf at *
  go_wp2_with fail
  refine bodyPost_ret (retRow HF.out.head Try.results64 _ (by rfl) _ 34 UC rfl (by kernel_rfl) (ccl_len _ _ _ HL.out)) rfl ?_
  exact ⟨va, vc, rfl, HF.out.drop.drop.head, fun k hk => (HF.out.all (ownt (.slice va n vc) vs) (by simp)).2 k hk, HF.out.low⟩
end CmU
end Go.Proofs.Ytplinpbmncccoaa

namespace Go.Proofs.Ytplinpbmncccoaa
namespace CmV
open Go.RowKit
open BlkM WirM WirS CmA CmP CmB CmI CmT

def lay (v : Vt) : List Vt → Bool → List Vt
  | [], put => if put = true then [] else [v]
  | x :: l, put => if put = false ∧ v.at' < x.at' then v :: x :: lay v l true else x :: lay v l put
theorem lay_true (v : Vt) : ∀ l : List Vt, lay v l true = l
  | [] => rfl
  | x :: l => by rw [lay, if_neg (by simp), lay_true v l]
theorem lay_ins (v : Vt) : ∀ l : List Vt, (∀ x ∈ l, x.at' ≠ v.at') → lay v l false = insV l v
  | [], _ => rfl
  | x :: l, h => by
    have hx := h x (by simp)
    rw [lay]
    by_cases e : v.at' < x.at'
    · rw [if_pos ⟨rfl, e⟩, lay_true, insV, cut, if_neg (by omega)]
      rfl
    · rw [if_neg (by simp [e]), lay_ins v l (fun y hy => h y (by simp [hy])), insV, insV, cut, if_pos (by omega)]
      rfl
theorem lay_len (v : Vt) : ∀ (l : List Vt) (p : Bool), (lay v l p).length ≤ l.length + 1
  | [], p => by cases p <;> simp [lay]
  | x :: l, p => by
    rw [lay]
    split
    · rw [lay_true]
      simp
    · have := lay_len v l p
      simp
      omega
theorem app_one (w U : World) (v : Value) (pre : List Vt) (y : Vt) (hO : OwnT U v pre) (hN : NewB w v) (hB : Below w.heap.size w U) (hy : y.ok) (hl : pre.length < 1000000) (g : Nat) (hg : U.heap.size = g) :
    ∃ v' u', (Builtin.append_ #[TL, TL] TL #[v, .slice (some ⟨g, 0, none⟩) 1 1]).run Try.prog (U.alloc (.cells #[.int .i64 y.at', .int .u64 y.sg] TV)) = .ok v' u' ∧ OwnT u' v' (pre ++ [y]) ∧ NewB w v' ∧ Below w.heap.size w u' := by
  subst hg
  have hal : Below U.heap.size U (U.alloc (.cells #[.int .i64 y.at', .int .u64 y.sg] TV)) := Below.alloc (Below.refl _ _) (Nat.le_refl _) _
  obtain ⟨v', u', hrun, ho, hf, hn⟩ := app_votes (U.alloc (.cells #[.int .i64 y.at', .int .u64 y.sg] TV)) TL TL v (.slice (some ⟨U.heap.size, 0, none⟩) 1 1) pre [y] (hO.below hal) (src_1 (At.new U _ (Vt.cells y))) (fun z hz => by rw [List.mem_singleton.1 hz]; exact hy) (by simp; omega)
  refine ⟨v', u', hrun, ho, fun q hq => ?_, ?_⟩
  · rcases hn q hq with h3 | h3
    · exact hN q h3
    · have := hB.size
      simp at h3
      omega
  · have hs := hB.size
    exact (hB.trans (hal.mono hs)).trans (hf.below (by simp; omega) (fun q hq hx => by have := hN q hx; omega))
theorem NewB_nil (w : World) : NewB w (.slice none 0 0) := fun k hk => by simp [Value.ownBlock] at hk
def MidLy (W0 : World) (vs : List Vt) (v : Vt) (n : Nat) (s t i : Value) (U : World) : Prop :=
  ∃ (k : Nat) (pre : List Vt) (put : Bool), k ≤ n ∧ i = .int .i64 (k : Int) ∧ t = .bool put ∧ OwnT U s pre ∧ NewB W0 s ∧ Below W0.heap.size W0 U ∧ pre.length ≤ 2 * k ∧ lay v vs false = pre ++ lay v (vs.drop k) put
set_option maxRecDepth 10000 in
set_option maxHeartbeats 8000000 in
theorem laid_any (w : World) (la : Option Addr) (n lc : Nat) (vs : List Vt) (c : Vt) (h : VtIn w la n lc vs) (hc : c.ok) (hn : n ≤ 1000) :
    Calls Try.prog 171 #[.slice la n lc, .agg #[.int .i64 c.at', .int .u64 c.sg]] w fun e w' => ∃ va vn vc, e = .returned (.slice va vn vc) ∧ OwnT w' (.slice va vn vc) (lay c vs false) ∧ NewB w (.slice va vn vc) ∧ Below w.heap.size w w' := by
  obtain ⟨W0, e0⟩ : ∃ X, X = w.alloc (.cells #[.int .i64 c.at', .int .u64 c.sg] TV) := ⟨_, rfl⟩
  have hA : At W0 w.heap.size TV c.cells := by rw [e0]; exact At.new w _ _
  have hb0 : Below w.heap.size w W0 := by rw [e0]; exact Below.alloc (Below.refl _ _) (Nat.le_refl _) _
  have H := WirS.hide (h.below hb0)
  have HL := WirS.hide h.len
  have HA := WirS.hide hA
  have HB0 := WirS.hide hb0
  have HC := WirS.hide hc
  have HN0 := WirS.hide hn
  have E0 := WirS.hide e0
  have HST := WirS.hide (show MidLy W0 vs c n (.slice none 0 0) (.bool false) (.int .i64 0) W0 from ⟨0, [], _, by omega, rfl, rfl, OwnT.nil _, NewB_nil _, Below.refl _ _, by simp, rfl⟩)
  clear h hA hb0 hc e0 hn
  go_enter Try.func171, Try.ntmps171
  go_upto_region 1 with fail
  rw [← E0.out]
  go_upto_region 4 with fail
  clear E0
  generalize hX : w.heap.size = X at *
  have HXE := WirS.hide hX
  clear hX
  go_loopw [5, 6, 7] (fun v t i wr => MidLy W0 vs c n v t i wr) (fun _ _ i _ => n - (intOf i).toNat)
  case atStart => exact HST.out
  case round =>
    clear HST
    obtain ⟨k, pre, put, hk, rfl, rfl, hO, hN, hB, hlen, hE⟩ := hrel
    have HO := WirS.hide hO
    have HN := WirS.hide hN
    have HB := WirS.hide hB
    have HPL := WirS.hide hlen
    clear hO hN hB hlen
    by_cases hlt : k < n
    · obtain ⟨x, B, o, hx, hmem, rfl, hBl, hr⟩ := H.out.cell hlt
      have HF := WirS.hide (fun (U : World) (hU : Below W0.heap.size W0 U) => (show U.cell? ⟨B, o + k * 2, none⟩ = some (.int .i64 x.at') ∧ U.cell? ⟨B, o + k * 2 + 1, none⟩ = some (.int .u64 x.sg) ∧ U.cell? ⟨X, 0, none⟩ = some (.int .i64 c.at') ∧ U.cell? ⟨X, 1, none⟩ = some (.int .u64 c.sg) from ⟨(hU.cell (p := ⟨B, _, none⟩) hBl).trans (hr 0 _ rfl), (hU.cell (p := ⟨B, _, none⟩) hBl).trans (hr 1 _ rfl), (hU.cell (p := ⟨X, _, none⟩) HA.out.lt).trans (HA.out.cell 0), (hU.cell (p := ⟨X, _, none⟩) HA.out.lt).trans (HA.out.cell 1)⟩))
      obtain ⟨r0, r1, s0, s1⟩ := HF.out wr HB.out
      have hkl : (k : Int) < (n : Int) := by omega
      have hk63 : k ≤ 1000 := by have := HN0.out; omega
      have HXO := WirS.hide (H.out.ok x hmem)
      rw [drop_get hx, lay] at hE
      clear hr hx hmem
      cases hput : put
      · subst hput
        by_cases hl : c.at' < x.at'
        · rw [if_pos ⟨rfl, hl⟩] at hE
          have d0 : decide (c.at' < x.at') = true := by simpa using hl
          have HE := WirS.hide hE
          clear hE hl
          go_upto_region 6 with fail
          go_quiet (fail)
          obtain ⟨v1, u1, hr1, ho, hn, hb⟩ := app_one W0 (wr.drewN nq) _ (pre) (c) (HO.out.below (below_drewN (Below.refl _ _) _)) HN.out (HB.out.trans ((below_drewN (Below.refl _ _) _).mono HB.out.size)) HC.out (by have := HPL.out; omega) wr.heap.size (by simp)
          have HOu1 := WirS.hide ho
          have HNu1 := WirS.hide hn
          have HBu1 := WirS.hide hb
          clear ho hn hb
          obtain ⟨f0, f1, g0, g1⟩ := HF.out u1 HBu1.out
          obtain ⟨v2, u2x, hr2, ho, hn, hb⟩ := app_one W0 u1 v1 (pre ++ [c]) (x) HOu1.out HNu1.out HBu1.out HXO.out (by have := HPL.out; simp only [List.length_append, List.length_cons, List.length_nil]; omega) u1.heap.size rfl
          have HOu2x := WirS.hide ho
          have HNu2x := WirS.hide hn
          have HBu2x := WirS.hide hb
          clear ho hn hb
          go_wp2_with (first | (at_builtin; refine sA (by kernel_rfl) _ _ _ _ (by rfl) _ _ (by rfl) (by rfl) v1 u1 hr1 ?_) | (at_builtin; refine sA (by kernel_rfl) _ _ _ _ (by rfl) _ _ (by rfl) (by rfl) v2 u2x hr2 ?_))
          go_roundw
          case rel => exact ⟨k + 1, pre ++ [c] ++ [x], true, by omega, by go_num, rfl, HOu2x.out, HNu2x.out, HBu2x.out, by have := HPL.out; simp only [List.length_append, List.length_cons, List.length_nil]; omega, by rw [HE.out]; simp⟩
          case measure => simp [intOf]; omega
        · rw [if_neg (by rintro ⟨_, h⟩; exact hl h)] at hE
          have d0 : decide (c.at' < x.at') = false := by simpa using hl
          have HE := WirS.hide hE
          clear hE hl
          go_upto_region 6 with fail
          go_quiet (fail)
          obtain ⟨v1, u1, hr1, ho, hn, hb⟩ := app_one W0 (wr.drewN nq) _ (pre) (x) (HO.out.below (below_drewN (Below.refl _ _) _)) HN.out (HB.out.trans ((below_drewN (Below.refl _ _) _).mono HB.out.size)) HXO.out (by have := HPL.out; omega) wr.heap.size (by simp)
          have HOu1 := WirS.hide ho
          have HNu1 := WirS.hide hn
          have HBu1 := WirS.hide hb
          clear ho hn hb
          go_wp2_with (at_builtin; refine sA (by kernel_rfl) _ _ _ _ (by rfl) _ _ (by rfl) (by rfl) v1 u1 hr1 ?_)
          go_roundw
          case rel => exact ⟨k + 1, pre ++ [x], false, by omega, by go_num, rfl, HOu1.out, HNu1.out, HBu1.out, by have := HPL.out; simp only [List.length_append, List.length_cons, List.length_nil]; omega, by rw [HE.out]; simp⟩
          case measure => simp [intOf]; omega
      · subst hput
        rw [if_neg (by simp)] at hE
        have HE := WirS.hide hE
        clear hE
        go_upto_region 6 with fail
        go_quiet (fail)
        obtain ⟨v1, u1, hr1, ho, hn, hb⟩ := app_one W0 (wr.drewN nq) _ (pre) (x) (HO.out.below (below_drewN (Below.refl _ _) _)) HN.out (HB.out.trans ((below_drewN (Below.refl _ _) _).mono HB.out.size)) HXO.out (by have := HPL.out; omega) wr.heap.size (by simp)
        have HOu1 := WirS.hide ho
        have HNu1 := WirS.hide hn
        have HBu1 := WirS.hide hb
        clear ho hn hb
        go_wp2_with (at_builtin; refine sA (by kernel_rfl) _ _ _ _ (by rfl) _ _ (by rfl) (by rfl) v1 u1 hr1 ?_)
        go_roundw
        case rel => exact ⟨k + 1, pre ++ [x], true, by omega, by go_num, rfl, HOu1.out, HNu1.out, HBu1.out, by have := HPL.out; simp only [List.length_append, List.length_cons, List.length_nil]; omega, by rw [HE.out]; simp⟩
        case measure => simp [intOf]; omega
    · have hd : vs.drop k = [] := List.drop_eq_nil_of_le (by rw [HL.out]; omega)
      have hkl : ¬ (k : Int) < (n : Int) := by omega
      rw [hd, lay] at hE
      obtain ⟨s0, s1⟩ : wr.cell? ⟨X, 0, none⟩ = some (.int .i64 c.at') ∧ wr.cell? ⟨X, 1, none⟩ = some (.int .u64 c.sg) := ⟨(HB.out.cell (p := ⟨X, _, none⟩) HA.out.lt).trans (HA.out.cell 0), (HB.out.cell (p := ⟨X, _, none⟩) HA.out.lt).trans (HA.out.cell 1)⟩
      cases hput : put
      · subst hput
        rw [if_neg (by simp)] at hE
        have HE := WirS.hide hE
        clear hE
        obtain ⟨v1, u1, hr1, ho, hn, hb⟩ := app_one W0 wr _ (pre) (c) HO.out HN.out HB.out HC.out (by have := HPL.out; have := HN0.out; omega) wr.heap.size rfl
        have HOu1 := WirS.hide ho
        have HNu1 := WirS.hide hn
        have HBu1 := WirS.hide hb
        clear ho hn hb
        obtain ⟨va, vc, rfl⟩ := HOu1.out.len_of
        generalize hvn : (pre ++ [c]).length = vn at *
        go_wp2_with (at_builtin; refine sA (by kernel_rfl) _ _ _ _ (by rfl) _ _ (by rfl) (by rfl) _ u1 hr1 ?_)
        go_ret
        exact ⟨_, _, _, rfl, by rw [HE.out]; exact HOu1.out, fun q hq => Nat.le_trans HB0.out.size (HNu1.out q hq), by rw [HXE.out]; exact HB0.out.trans (HBu1.out.mono (by rw [← HXE.out]; exact HB0.out.size))⟩
      · subst hput
        rw [if_pos rfl, List.append_nil] at hE
        have HE := WirS.hide hE
        clear hE
        obtain ⟨va, vc, rfl⟩ := HO.out.len_of
        go_wp2_with fail
        go_ret
        exact ⟨_, _, _, rfl, by rw [HE.out]; exact HO.out, fun q hq => Nat.le_trans HB0.out.size (HN.out q hq), by rw [HXE.out]; exact HB0.out.trans (HB.out.mono (by rw [← HXE.out]; exact HB0.out.size))⟩
end CmV
end Go.Proofs.Ytplinpbmncccoaa

