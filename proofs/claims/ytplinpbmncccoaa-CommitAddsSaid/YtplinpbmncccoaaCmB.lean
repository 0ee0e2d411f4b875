/-
  A commit's cells; commit.Check, Of.
-/
import Derived.Test.YtplinpbmncccoaaCmP
namespace Go.Proofs.Ytplinpbmncccoaa
namespace CmB
open Go.RowKit
open BlkM WirM WirS CmA CmP

theorem drop_get {α : Type} {l : List α} {k : Nat} {x : α} (h : l[k]? = some x) : l.drop k = x :: l.drop (k + 1) := by
  obtain ⟨hk, rfl⟩ := List.getElem?_eq_some_iff.1 h
  exact List.drop_eq_getElem_cons hk
/-- A commit: its height, its hash's bytes, its votes as a slice. -/
def ccl (ht : Int) (h : List Int) (s : Value) : List Value := .int .i64 ht :: (b8 h ++ [s])
theorem ccl_len (ht : Int) (h : List Int) (s : Value) (hl : h.length = 32) : (ccl ht h s).length = 34 := by simp [ccl, b8_len, hl]
theorem ccl_0 (ht : Int) (h : List Int) (s : Value) : (ccl ht h s)[0]? = some (.int .i64 ht) := rfl
theorem ccl_33 (ht : Int) (h : List Int) (s : Value) (hl : h.length = 32) : (ccl ht h s)[33]? = some s := by
  show (b8 h ++ [s])[32]? = some s
  rw [List.getElem?_append_right (by rw [b8_len, hl]; exact Nat.le_refl _), b8_len, hl]
  rfl
theorem one_ccl (ht : Int) (h : List Int) (a : Option Addr) (n c : Nat) : (ccl ht h (.slice a n c)).toArray.all (·.oneCell') = true := by simp [ccl, b8, Value.oneCell']
abbrev TC : TypeId := 95
abbrev TV : TypeId := 113
theorem place_any (w : World) (x : Int) : Calls Try.prog 167 #[.int .i64 x] w fun e w' => e = .returned (.bool (decide (0 ≤ x ∧ x < 64))) ∧ w = w' := by
  by_cases h1 : 0 ≤ x
  · have d1 : decide (0 ≤ x) = true := by simpa using h1
    by_cases h2 : x < 64
    · have d2 : decide (x < 64) = true := by simpa using h2
      rw [decide_eq_true (⟨h1, h2⟩ : 0 ≤ x ∧ x < 64)]
      go_enter Try.func167, Try.ntmps167
      go_wp2_with fail
      go_ret
      exact ⟨rfl, rfl⟩
    · have d2 : decide (x < 64) = false := by simpa using h2
      rw [decide_eq_false (fun h => h2 h.2 : ¬(0 ≤ x ∧ x < 64))]
      go_enter Try.func167, Try.ntmps167
      go_wp2_with fail
      go_ret
      exact ⟨rfl, rfl⟩
  · have d1 : decide (0 ≤ x) = false := by simpa using h1
    rw [decide_eq_false (fun h => h1 h.1 : ¬(0 ≤ x ∧ x < 64))]
    go_enter Try.func167, Try.ntmps167
    go_wp2_with fail
    go_ret
    exact ⟨rfl, rfl⟩
theorem asc_any (w : World) : Calls Try.prog 165 #[] w fun e w' => e = .returned (.func (.func 204) #[] #[.pointer (some ⟨w.heap.size, 0, none⟩)]) ∧ At w' w.heap.size 3 [.int .i64 (-1)] ∧ Below w.heap.size w w' := by
  have hA := (At.new w 3 [.int .i64 0]).setCell 0 (.int .i64 (-1))
  have hB : Below w.heap.size w ((w.alloc (.cells #[.int .i64 0] 3)).setCell ⟨w.heap.size, 0, none⟩ (.int .i64 (-1))) := Below.setCell (Below.alloc (Below.refl _ _) (Nat.le_refl _) _) (by simp) _
  have HA := WirS.hide hA
  have HB := WirS.hide hB
  clear hA hB
  go_enter Try.func165, Try.ntmps165
  go_wp2_with fail
  go_ret
  first | exact ⟨rfl, HA.out, HB.out⟩ | exact ⟨rfl, At.new _ _ _, Below.alloc (Below.refl _ _) (Nat.le_refl _) _⟩
def nxE (p : Int) (v : Vt) : Int := if ¬(0 ≤ v.at' ∧ v.at' < 64) then 3 else if v.at' ≤ p then 9 else 0
set_option maxRecDepth 10000 in
theorem nx_any (w : World) (P : Nat) (p : Int) (v : Vt) (h : At w P 3 [.int .i64 p]) :
    Calls Try.prog 204 #[.agg #[.int .i64 v.at', .int .u64 v.sg], .pointer (some ⟨P, 0, none⟩)] w fun e w' => e = .returned (.int .i64 (nxE p v)) ∧ (nxE p v = 0 → At w' P 3 [.int .i64 v.at']) ∧ Fr (fun k => k = P) w w' := by
  have hPl := h.lt
  obtain ⟨W0, e0⟩ : ∃ X, X = w.alloc (.cells #[.int .i64 v.at', .int .u64 v.sg] TV) := ⟨_, rfl⟩
  have hA : At W0 w.heap.size TV v.cells := by rw [e0]; exact At.new w _ _
  have hP : At W0 P 3 [.int .i64 p] := by rw [e0]; exact At.alloc h _
  have k0 : W0.cell? ⟨w.heap.size, 0, none⟩ = some (.int .i64 v.at') := hA.cell 0
  have kp : W0.cell? ⟨P, 0, none⟩ = some (.int .i64 p) := hP.cell 0
  have fp : W0.frozen? ⟨P, 0, none⟩ = false := hP.frozen 0
  have hF : Fr (fun k => k = P) w W0 := by rw [e0]; exact (Fr.refl _ w).alloc _
  have HF := WirS.hide hF
  have HP := WirS.hide hP
  have E0 := WirS.hide e0
  have HPL := WirS.hide (fun U => place_any U v.at')
  have HS := WirS.hide (show At (W0.setCell ⟨P, 0, none⟩ (.int .i64 v.at')) P 3 [.int .i64 v.at'] from hP.setCell 0 _)
  have HFS := WirS.hide (show Fr (fun k => k = P) w (W0.setCell ⟨P, 0, none⟩ (.int .i64 v.at')) from hF.setCell P 0 _ (fun _ => rfl))
  clear hA hP e0 h hF
  unfold nxE
  by_cases h1 : 0 ≤ v.at' ∧ v.at' < 64
  · rw [if_neg (by simpa using h1)]
    rw [decide_eq_true h1] at HPL
    clear h1
    generalize v.at' = x at *
    by_cases h2 : x ≤ p
    · have d2 : decide (x ≤ p) = true := by simpa using h2
      rw [if_pos h2]
      go_enter Try.func204, Try.ntmps204
      go_upto_region 1 with fail
      rw [← E0.out]
      go_wp2_with (go_at_call 167; refine (HPL.out _).mono ?_; rintro e u ⟨rfl, rfl⟩)
      go_ret
      exact ⟨rfl, fun h => absurd h (by decide), HF.out⟩
    · have d2 : decide (x ≤ p) = false := by simpa using h2
      rw [if_neg h2]
      go_enter Try.func204, Try.ntmps204
      go_upto_region 1 with fail
      rw [← E0.out]
      go_wp2_with (go_at_call 167; refine (HPL.out _).mono ?_; rintro e u ⟨rfl, rfl⟩)
      go_ret
      exact ⟨rfl, fun _ => HS.out, HFS.out⟩
  · rw [if_pos h1]
    rw [decide_eq_false h1] at HPL
    clear h1
    generalize v.at' = x at *
    go_enter Try.func204, Try.ntmps204
    go_upto_region 1 with fail
    rw [← E0.out]
    go_wp2_with (go_at_call 167; refine (HPL.out _).mono ?_; rintro e u ⟨rfl, rfl⟩)
    go_ret
    exact ⟨rfl, fun h => absurd h (by decide), HF.out⟩
def MidK (w : World) (P : Nat) (vs : List Vt) (n : Nat) (i : Value) (U : World) : Prop :=
  ∃ (k : Nat) (p : Int), k ≤ n ∧ i = .int .i64 (k : Int) ∧ At U P 3 [.int .i64 p] ∧ chkV (-1) vs = chkV p (vs.drop k) ∧ Below w.heap.size w U
set_option maxRecDepth 10000 in
set_option maxHeartbeats 4000000 in
theorem check_any (w : World) (ht : Int) (h : List Int) (a : Option Addr) (n c : Nat) (vs : List Vt) (hl : h.length = 32) (hv : VtIn w a n c vs) :
    Calls Try.prog 72 #[.agg (ccl ht h (.slice a n c)).toArray] w fun e w' => e = .returned (.int .i64 (chk ht vs)) ∧ Below w.heap.size w w' := by
  have hlen := hv.len
  obtain ⟨W0, e0⟩ : ∃ X, X = w.alloc (.cells (ccl ht h (.slice a n c)).toArray TC) := ⟨_, rfl⟩
  have hA : At W0 w.heap.size TC (ccl ht h (.slice a n c)) := by rw [e0]; exact At.new w _ _
  have hB : Below w.heap.size w W0 := by rw [e0]; exact Below.alloc (Below.refl _ _) (Nat.le_refl _) _
  have k0 : W0.cell? ⟨w.heap.size, 0, none⟩ = some (.int .i64 ht) := (hA.cell 0).trans (ccl_0 _ _ _)
  have k33 : W0.cell? ⟨w.heap.size, 33, none⟩ = some (.slice a n c) := (hA.cell 33).trans (ccl_33 _ _ _ hl)
  have hXl := hA.lt
  have HA := WirS.hide hA
  have HB := WirS.hide hB
  have HV := WirS.hide hv
  have E0 := WirS.hide e0
  have HL := WirS.hide hlen
  have hC : chk ht vs = if ¬(1 ≤ ht ∧ ht ≤ 1073741824) then 3 else if 64 < n then 4 else chkV (-1) vs := by rw [← hlen]; rfl
  rw [hC]
  clear hA hB e0 hv hlen hC hl
  by_cases h1 : ht < 1
  · have d1 : decide (ht < 1) = true := by simpa using h1
    rw [if_pos (by omega)]
    go_enter Try.func72, Try.ntmps72
    go_upto_region 1 with fail
    rw [← E0.out]
    go_wp2_with fail
    go_ret
    exact ⟨rfl, HB.out⟩
  have d1 : decide (ht < 1) = false := by simpa using h1
  by_cases h2 : 1073741824 < ht
  · have d2 : decide ((1073741824 : Int) < ht) = true := by simpa using h2
    rw [if_pos (by omega)]
    go_enter Try.func72, Try.ntmps72
    go_upto_region 1 with fail
    rw [← E0.out]
    go_wp2_with fail
    go_ret
    exact ⟨rfl, HB.out⟩
  have d2 : decide ((1073741824 : Int) < ht) = false := by simpa using h2
  rw [if_neg (by omega)]
  by_cases h3 : 64 < n
  · have e2 : (64 : Int) < (n : Int) := by omega
    rw [if_pos h3]
    go_enter Try.func72, Try.ntmps72
    go_upto_region 1 with fail
    rw [← E0.out]
    go_wp2_with fail
    go_ret
    exact ⟨rfl, HB.out⟩
  have e2 : ¬ (64 : Int) < (n : Int) := by omega
  rw [if_neg h3]
  have HASC := WirS.hide (asc_any W0)
  go_enter Try.func72, Try.ntmps72
  go_upto_region 1 with fail
  rw [← E0.out]
  go_upto_region 6 with (go_at_call 165; refine (HASC.out).mono ?_; rintro e u0 ⟨rfl, hA, hb⟩; have HST := WirS.hide (show MidK w W0.heap.size vs n (.int .i64 0) u0 from ⟨0, -1, Nat.zero_le _, rfl, hA, rfl, HB.out.trans (hb.mono HB.out.size)⟩); have k33' : u0.cell? ⟨w.heap.size, 33, none⟩ = some (.slice a n c) := (hb.cell (p := ⟨w.heap.size, 33, none⟩) hXl).trans k33; clear hA hb)
  clear k0 k33
  go_wp2_with fail
  go_loopw [23] (fun i wr => MidK w W0.heap.size vs n i wr) (fun i _ => n - (intOf i).toNat)
  case atStart => exact HST.out
  case round =>
    clear HST k33'
    obtain ⟨k, p, hk, rfl, hP, hE, hBw⟩ := hrel
    by_cases hlt : k < n
    · obtain ⟨x, B, o, hx, hmem, rfl, hBl, hr⟩ := (HV.out.below hBw).cell hlt
      have r0 : wr.cell? ⟨B, o + k * 2, none⟩ = some (.int .i64 x.at') := hr 0 _ rfl
      have r1 : wr.cell? ⟨B, o + k * 2 + 1, none⟩ = some (.int .u64 x.sg) := hr 1 _ rfl
      have hkl : (k : Int) < (n : Int) := by omega
      have HB2 := WirS.hide (show Below w.heap.size w (wr.alloc (.cells #[.int .i64 x.at', .int .u64 x.sg] TV)) from hBw.alloc hBw.size _)
      have HNX := WirS.hide (nx_any (wr.alloc (.cells #[.int .i64 x.at', .int .u64 x.sg] TV)) W0.heap.size p x (hP.alloc _))
      rw [drop_get hx, chkV] at hE
      have HWs := WirS.hide (show w.heap.size ≤ W0.heap.size from HB.out.size)
      by_cases h0 : nxE p x = 0
      · have hE2 : chkV (-1) vs = chkV x.at' (vs.drop (k + 1)) := by
          rw [hE]
          unfold nxE at h0
          split at h0
          · exact absurd h0 (by decide)
          rename_i q1
          split at h0
          · exact absurd h0 (by decide)
          rename_i q2
          rw [if_neg q1, if_neg q2]
        rw [h0] at HNX
        have HE := WirS.hide hE2
        clear hr hx hmem hE hE2 h0 hP hBw
        go_wp2_with (go_at_call 204; refine (HNX.out).mono ?_; rintro e u ⟨rfl, hA, hF⟩; have HA2 := WirS.hide (hA rfl); have HU := WirS.hide (HB2.out.trans (hF.below HB2.out.size (fun q hq hx => by have := HWs.out; omega))); clear hA hF)
        go_roundw
        case rel => exact ⟨k + 1, x.at', by omega, by go_num, HA2.out, HE.out, HU.out⟩
        case measure => simp [intOf]; omega
      · have hE2 : chkV (-1) vs = nxE p x := by
          rw [hE]
          unfold nxE at h0 ⊢
          by_cases q1 : ¬(0 ≤ x.at' ∧ x.at' < 64)
          · rw [if_pos q1, if_pos q1]
          · rw [if_neg q1, if_neg q1]
            by_cases q2 : x.at' ≤ p
            · rw [if_pos q2, if_pos q2]
            · rw [if_neg q1, if_neg q2] at h0
              exact absurd rfl h0
        obtain ⟨cd, hcd⟩ : ∃ cd, nxE p x = cd := ⟨_, rfl⟩
        rw [hcd] at h0 hE2 HNX
        have hn0 : (cd == 0) = false := by simpa using h0
        have hn1 : (cd != 0) = true := by simpa using h0
        have HE := WirS.hide hE2
        clear hr hx hmem hE hE2 h0 hP hBw hcd
        go_wp2_with (go_at_call 204; refine (HNX.out).mono ?_; rintro e u ⟨rfl, hA, hF⟩; have HU := WirS.hide (HB2.out.trans (hF.below HB2.out.size (fun q hq hx => by have := HWs.out; omega))); clear hA hF)
        go_ret
        exact ⟨(by rw [HE.out]; rfl), HU.out⟩
    · have hd : vs.drop k = [] := List.drop_eq_nil_of_le (by rw [HL.out]; omega)
      rw [hd, chkV] at hE
      have HE := WirS.hide hE
      have HBB := WirS.hide hBw
      clear hE hBw hP hd
      go_wp2_with fail
      go_ret
      exact ⟨(by rw [HE.out]; rfl), HBB.out⟩
/-- What Of answers. -/
def ofS (k : Int) (vs : List Vt) : Int := (ofV k vs).getD 0
def MidO (w : World) (vs : List Vt) (at0 : Int) (n : Nat) (i : Value) (U : World) : Prop :=
  ∃ k : Nat, k ≤ n ∧ i = .int .i64 (k : Int) ∧ ofV at0 vs = ofV at0 (vs.drop k) ∧ Below w.heap.size w U
set_option maxRecDepth 10000 in
set_option maxHeartbeats 4000000 in
theorem of_any (w : World) (ht : Int) (h : List Int) (a : Option Addr) (n c : Nat) (vs : List Vt) (at0 : Int) (hl : h.length = 32) (hv : VtIn w a n c vs) :
    Calls Try.prog 65 #[.agg (ccl ht h (.slice a n c)).toArray, .int .i64 at0] w fun e w' => e = .returned (.tuple #[.int .u64 (ofS at0 vs), .bool (ofV at0 vs).isSome]) ∧ Below w.heap.size w w' := by
  have hlen := hv.len
  have hns : n ≤ 9223372036854775807 := Nat.le_trans hv.cap hv.small
  obtain ⟨W0, e0⟩ : ∃ X, X = w.alloc (.cells (ccl ht h (.slice a n c)).toArray TC) := ⟨_, rfl⟩
  have hA : At W0 w.heap.size TC (ccl ht h (.slice a n c)) := by rw [e0]; exact At.new w _ _
  have hB : Below w.heap.size w W0 := by rw [e0]; exact Below.alloc (Below.refl _ _) (Nat.le_refl _) _
  have k33 : W0.cell? ⟨w.heap.size, 33, none⟩ = some (.slice a n c) := (hA.cell 33).trans (ccl_33 _ _ _ hl)
  have HV := WirS.hide hv
  have E0 := WirS.hide e0
  have HL := WirS.hide hlen
  have HST := WirS.hide (show MidO w vs at0 n (.int .i64 0) W0 from ⟨0, Nat.zero_le _, rfl, rfl, hB⟩)
  obtain ⟨rs, hrs⟩ : ∃ r, ofS at0 vs = r := ⟨_, rfl⟩
  obtain ⟨rb, hrb⟩ : ∃ r, (ofV at0 vs).isSome = r := ⟨_, rfl⟩
  rw [hrs, hrb]
  have HRS := WirS.hide hrs
  have HRB := WirS.hide hrb
  clear hA hB e0 hv hlen hl hrs hrb
  go_enter Try.func65, Try.ntmps65
  go_upto_region 1 with fail
  rw [← E0.out]
  go_wp2_with fail
  go_loopw [11] (fun i wr => MidO w vs at0 n i wr) (fun i _ => n - (intOf i).toNat)
  case atStart => exact HST.out
  case round =>
    clear HST k33
    obtain ⟨k, hk, rfl, hE, hBw⟩ := hrel
    by_cases hlt : k < n
    · obtain ⟨x, B, o, hx, hmem, rfl, hBl, hr⟩ := (HV.out.below hBw).cell hlt
      have r0 : wr.cell? ⟨B, o + k * 2, none⟩ = some (.int .i64 x.at') := hr 0 _ rfl
      have r1 : wr.cell? ⟨B, o + k * 2 + 1, none⟩ = some (.int .u64 x.sg) := hr 1 _ rfl
      have hkl : (k : Int) < (n : Int) := by omega
      have HB2 := WirS.hide (show Below w.heap.size w (wr.alloc (.cells #[.int .i64 x.at', .int .u64 x.sg] TV)) from hBw.alloc hBw.size _)
      rw [drop_get hx, ofV] at hE
      by_cases h0 : x.at' = at0
      · rw [if_pos h0] at hE
        have d0 : (x.at' == at0) = true := by simpa using h0
        have HE := WirS.hide hE
        clear hr hx hmem hE h0 hBw
        go_wp2_with fail
        refine bodyPost_ret (v := .tuple #[.int .u64 x.sg, .bool true]) (by simp [results, Try.results65, go_sem]) rfl ?_
        exact ⟨by rw [← HRS.out, ← HRB.out, ofS, HE.out]; rfl, HB2.out⟩
      · rw [if_neg h0] at hE
        have d0 : (x.at' == at0) = false := by simpa using h0
        have HE := WirS.hide hE
        clear hr hx hmem hE h0 hBw
        go_wp2_with fail
        go_roundw
        case rel => exact ⟨k + 1, by omega, by go_num, HE.out, HB2.out⟩
        case measure => simp [intOf]; omega
    · have hd : vs.drop k = [] := List.drop_eq_nil_of_le (by rw [HL.out]; omega)
      rw [hd, ofV] at hE
      have HE := WirS.hide hE
      have HBB := WirS.hide hBw
      clear hE hBw hd
      go_wp2_with fail
      refine bodyPost_ret (v := .tuple #[.int .u64 0, .bool false]) (by simp [results, Try.results65, go_sem]) rfl ?_
      exact ⟨by rw [← HRS.out, ← HRB.out, ofS, HE.out]; rfl, HBB.out⟩
end CmB
end Go.Proofs.Ytplinpbmncccoaa
