/-
  The document's Read of a hash.
-/
import Derived.Test.YtmdikdcbphogcaaDoorBlkV
namespace Go.Proofs.YtmdikdcbphogcaaDoor
namespace BlkT
open Go.RowKit Go.Lib
open BlkM BlkA BlkF BlkG BlkI BlkJ BlkK BlkL BlkO BlkP BlkX BlkZ BlkV HexM

/-! ### Read -/
theorem dle (c : UInt8) : dN c ≤ 16 := by
  have h := dig_spec c
  split at h
  · omega
  · split at h <;> omega
theorem rp_two (s : ByteArray) (k : Nat) (hk : k < 32) : (rp s (2 * k)).set k ((hx s (2 * k) : Int) * 16 + (hx s (2 * k + 1) : Int)) = rp s (2 * (k + 1)) := by
  have h1 := rp_step s (2 * k) (by omega)
  have h2 := rp_step s (2 * k + 1) (by omega)
  rw [show 2 * k / 2 = k by omega] at h1
  rw [show (2 * k + 1) / 2 = k by omega] at h2
  have e1 : rpv s (2 * k) k = 0 := by
    unfold rpv
    rw [if_neg (by omega), if_neg (by omega)]
  have e2 : rpv s (2 * k + 1) k = (hx s (2 * k) : Int) := by
    unfold rpv
    rw [if_neg (by omega), if_pos (by omega)]
  rw [e1] at h1
  rw [e2, ← h1, List.set_set] at h2
  exact h2
theorem idxS (s : ByteArray) (j : Nat) (h : j < s.size) (x : Int) (hx : x = (j : Int)) (W : World) : (Instr.index 9 (.string s) (.int .i64 x)).run Tryd.prog W = .ok (.int .u8 ((s[j]'h).toNat : Int)) W := by
  subst hx
  have b2 : (j : Int) < (s.size : Int) := by omega
  go_simp
def MidQ (w : World) (s : ByteArray) (i : Value) (U : World) : Prop :=
  ∃ k : Nat, k ≤ 32 ∧ i = .int .i64 (k : Int) ∧ At U (w.heap.size + 1) 26 (b8 (rp s (2 * k))) ∧ At U w.heap.size 26 (b8 zH) ∧ Below w.heap.size w U ∧ ∀ j, j < 2 * k → hx s j < 16
set_option maxRecDepth 10000 in
set_option maxHeartbeats 2000000 in
theorem rread_any (w : World) (s : ByteArray) (v : Value) (hyes : okS s → v = tOk s) (hno : ¬ okS s → v = tNo) :
    Calls Tryd.prog 17 #[.string s] w fun e w' => e = .returned v ∧ Below w.heap.size w w' := by
  obtain ⟨Wa, eWa⟩ : ∃ X, X = w.alloc (.cells #[Value.int .u8 0, Value.int .u8 0, Value.int .u8 0, Value.int .u8 0, Value.int .u8 0, Value.int .u8 0, Value.int .u8 0, Value.int .u8 0, Value.int .u8 0, Value.int .u8 0, Value.int .u8 0, Value.int .u8 0, Value.int .u8 0, Value.int .u8 0, Value.int .u8 0, Value.int .u8 0, Value.int .u8 0, Value.int .u8 0, Value.int .u8 0, Value.int .u8 0, Value.int .u8 0, Value.int .u8 0, Value.int .u8 0, Value.int .u8 0, Value.int .u8 0, Value.int .u8 0, Value.int .u8 0, Value.int .u8 0, Value.int .u8 0, Value.int .u8 0, Value.int .u8 0, Value.int .u8 0] 26) := ⟨_, rfl⟩
  have hRa : At Wa w.heap.size 26 (b8 zH) := by rw [eWa]; exact At.new w 26 (b8 zH)
  have hBa : Below w.heap.size w Wa := by rw [eWa]; exact (by repeat (first | assumption | exact Below.refl _ _ | refine Below.setCell ?_ (by first | omega | (simp; done) | (simp; omega)) _ | refine below_drewN ?_ _ | refine Below.drew ?_ | refine Below.alloc ?_ (by first | omega | (simp; done) | (simp; omega)) _ | refine Below.trans ?_ (Below.mono (by assumption) (by first | omega | (simp; done) | (simp; omega)))))
  have hsa : Wa.heap.size = w.heap.size + 1 := by rw [eWa]; simp
  have EA := hide eWa
  have HRA := hide hRa
  have HBA := hide hBa
  have HSA := hide hsa
  have HYES := hide hyes
  have HNO := hide hno
  clear eWa hRa hBa hsa hyes hno
  by_cases hs : s.size = 64
  · have t0 : ((s.size : Int) != 64) = false := by simp; omega
    have hst : MidQ w s (.int .i64 0) (Wa.alloc (.cells #[Value.int .u8 0, Value.int .u8 0, Value.int .u8 0, Value.int .u8 0, Value.int .u8 0, Value.int .u8 0, Value.int .u8 0, Value.int .u8 0, Value.int .u8 0, Value.int .u8 0, Value.int .u8 0, Value.int .u8 0, Value.int .u8 0, Value.int .u8 0, Value.int .u8 0, Value.int .u8 0, Value.int .u8 0, Value.int .u8 0, Value.int .u8 0, Value.int .u8 0, Value.int .u8 0, Value.int .u8 0, Value.int .u8 0, Value.int .u8 0, Value.int .u8 0, Value.int .u8 0, Value.int .u8 0, Value.int .u8 0, Value.int .u8 0, Value.int .u8 0, Value.int .u8 0, Value.int .u8 0] 26)) := by
      refine ⟨0, by omega, rfl, ?_, HRA.out.alloc _, HBA.out.alloc (by have := HSA.out; omega) _, fun j hj => by omega⟩
      have h := At.new Wa 26 (b8 zH)
      rw [HSA.out] at h
      rw [show 2 * 0 = 0 from rfl, rp_zero]
      exact h
    have HST := hide hst
    have HSZ := hide hs
    clear hst hs
    go_enter Tryd.func17, Tryd.ntmps17
    go_upto_region 1 with fail
    rw [← EA.out]
    have hsa := HSA.out
    go_wp2_with fail
    clear hsa
    go_loopw [5] (fun i wr => MidQ w s i wr) (fun i _ => 32 - (intOf i).toNat)
    case atStart => exact HST.out
    case round =>
      obtain ⟨k, hk, rfl, hm, hr, hB, hpre⟩ := hrel
      by_cases hlt : k < 32
      · have k1 : 2 * k < s.size := by have := HSZ.out; omega
        have k2 : 2 * k + 1 < s.size := by have := HSZ.out; omega
        have i1 := fun W => idxS s (2 * k) k1 (2 * (k : Int)) (by omega) W
        have i2 := fun W => idxS s (2 * k + 1) k2 (2 * (k : Int) + 1) (by omega) W
        have x1 := hx_at s (2 * k) k1
        have x2 := hx_at s (2 * k + 1) k2
        obtain ⟨c1, hc1⟩ : ∃ c, s[2 * k]'k1 = c := ⟨_, rfl⟩
        obtain ⟨c2, hc2⟩ : ∃ c, s[2 * k + 1]'k2 = c := ⟨_, rfl⟩
        rw [hc1] at i1 x1
        rw [hc2] at i2 x2
        have l1 := dle c1
        have l2 := dle c2
        have D1 := hide (fun W => (rdig_any c1 W).mono (R' := fun e W' => e = .returned (.int .u8 (dN c1 : Int)) ∧ W' = W) fun _ _ ⟨h, k⟩ => ⟨h, k.symm⟩)
        have D2 := hide (fun W => (rdig_any c2 W).mono (R' := fun e W' => e = .returned (.int .u8 (dN c2 : Int)) ∧ W' = W) fun _ _ ⟨h, k⟩ => ⟨h, k.symm⟩)
        obtain ⟨d1, hd1⟩ : ∃ d, dN c1 = d := ⟨_, rfl⟩
        obtain ⟨d2, hd2⟩ : ∃ d, dN c2 = d := ⟨_, rfl⟩
        rw [hd1] at D1 x1 l1
        rw [hd2] at D2 x2 l2
        have hk2 : (k : Int) < 32 := by omega
        have w1 : IntKind.i64.wrap (2 * (k : Int)) = 2 * (k : Int) := by simp [IntKind.wrap, IntKind.bits, IntKind.signed]; omega
        have w2 : IntKind.i64.wrap (2 * (k : Int) + 1) = 2 * (k : Int) + 1 := by simp [IntKind.wrap, IntKind.bits, IntKind.signed]; omega
        have HM := hide hm
        have HR := hide hr
        have HB := hide hB
        have HP := hide hpre
        have X1 := hide x1
        have X2 := hide x2
        clear hm hr hB hpre x1 x2 hc1 hc2 hd1 hd2 k1 k2
        go_wp2_with fail
        go_quiet ((go_at_call 47; first | (with_reducible exact Calls.quiet_of_same (D1.out _)) | (with_reducible exact Calls.quiet_of_same (D2.out _))))
        obtain ⟨W1, eW1⟩ : ∃ X, X = wr.drewN nq := ⟨_, rfl⟩
        rw [← eW1]
        have HM1 := hide (show At W1 (w.heap.size + 1) 26 (b8 (rp s (2 * k))) by rw [eW1]; exact HM.out)
        have HR1 := hide (show At W1 w.heap.size 26 (b8 zH) by rw [eW1]; exact HR.out)
        have HB1 := hide (show Below w.heap.size w W1 by rw [eW1]; exact below_drewN HB.out _)
        clear eW1 HM HR HB i1 i2
        by_cases h1 : d1 < 16
        · by_cases h2 : d2 < 16
          · have n1 : ((d1 : Int) == 16) = false := by simp; omega
            have n2 : ((d2 : Int) == 16) = false := by simp; omega
            have n3 : (((d1 : Int) == 16) || ((d2 : Int) == 16)) = false := by rw [n1, n2]; rfl
            have g1 : (d1 : Int) * 16 % 256 = (d1 : Int) * 16 := by omega
            have g2 : ((d1 : Int) * 16 + (d2 : Int)) % 256 = (d1 : Int) * 16 + (d2 : Int) := by omega
            have ci := HM1.out.cell k
            rw [b8_get _ k (by rw [rp_len]; exact hlt)] at ci
            have fi := HM1.out.frozen k
            have hstp := rp_two s k hlt
            rw [X1.out, X2.out] at hstp
            have HSTP := hide hstp
            have HPN := hide (show ∀ j, j < 2 * (k + 1) → hx s j < 16 from fun j hj => by
              by_cases e : j = 2 * k
              · rw [e, X1.out]; exact h1
              · by_cases e2 : j = 2 * k + 1
                · rw [e2, X2.out]; exact h2
                · exact HP.out j (by omega))
            clear hstp
            go_wp2_with fail
            go_roundw
            case rel =>
              refine ⟨k + 1, by omega, by go_num, ?_, HR1.out.setCell_other (by omega) _ _, Below.setCell HB1.out (by simp) _, HPN.out⟩
              rw [← HSTP.out, ← b8_set]
              exact HM1.out.setCell k _
            case measure => simp [intOf]; omega
          · obtain rfl : d2 = 16 := by omega
            have n1 : ¬ (d1 : Int) = 16 := by omega
            have HV := hide (HNO.out (fun h => by have := h.2 (2 * k + 1) (by omega); rw [X2.out] at this; omega))
            have HR2 := hide (HR1.out.put (b8 zH))
            have HB2 := hide (Below.setRowOwn HB1.out (Nat.le_refl w.heap.size) (b8 zH).toArray)
            go_upto_region 9 with fail
            refine wp_region_lit ?_
            refine stepVal (v := .agg (b8 zH).toArray) (w' := W1) (by rfl) (by kernel_rfl) ?_
            refine stepStore (by rfl) _ _ _ (by rfl) _ _ (by rfl) (by rfl) HR1.out 32 (by kernel_rfl) (by rw [b8_len]; rfl) (by rw [b8_len]; rfl) (oneCells_b8 _) ?_
            go_wp2_with fail
            exact bodyPost_ret (retRow2 HR2.out Tryd.results17 _ (by rfl) (.int .i64 5) (by rfl) _ 32 Tryd.underlying26 rfl (by kernel_rfl) (by rw [b8_len]; rfl)) rfl ⟨by rw [HV.out]; rfl, HB2.out⟩
        · obtain rfl : d1 = 16 := by omega
          have HV := hide (HNO.out (fun h => by have := h.2 (2 * k) (by omega); rw [X1.out] at this; omega))
          have HR2 := hide (HR1.out.put (b8 zH))
          have HB2 := hide (Below.setRowOwn HB1.out (Nat.le_refl w.heap.size) (b8 zH).toArray)
          go_upto_region 9 with fail
          refine wp_region_lit ?_
          refine stepVal (v := .agg (b8 zH).toArray) (w' := W1) (by rfl) (by kernel_rfl) ?_
          refine stepStore (by rfl) _ _ _ (by rfl) _ _ (by rfl) (by rfl) HR1.out 32 (by kernel_rfl) (by rw [b8_len]; rfl) (by rw [b8_len]; rfl) (oneCells_b8 _) ?_
          go_wp2_with fail
          exact bodyPost_ret (retRow2 HR2.out Tryd.results17 _ (by rfl) (.int .i64 5) (by rfl) _ 32 Tryd.underlying26 rfl (by kernel_rfl) (by rw [b8_len]; rfl)) rfl ⟨by rw [HV.out]; rfl, HB2.out⟩
      · obtain rfl : k = 32 := by omega
        have HM := hide hm
        have HR := hide hr
        have HR2 := hide (hr.put (b8 (rdL s)))
        have HB2 := hide (Below.setRowOwn hB (Nat.le_refl w.heap.size) (b8 (rdL s)).toArray)
        have HV := hide (HYES.out ⟨HSZ.out, hpre⟩)
        clear hm hr hB hpre
        go_upto_region 11 with (fail)
        refine wp_region_lit ?_
        refine stepLoad (by rfl) _ _ (by rfl) _ (by rfl) (show At wr (w.heap.size + 1) 26 (b8 (rdL s)) from HM.out) _ 32 Tryd.underlying26 rfl (by kernel_rfl) (by rw [b8_len]; exact rp_len s 64) ?_
        refine stepStore (by rfl) _ _ _ (by rfl) _ _ (by rfl) (by rfl) HR.out 32 (by kernel_rfl) (by rw [b8_len]; rfl) (by rw [b8_len]; exact rp_len s 64) (oneCells_b8 _) ?_
        go_wp2_with fail
        exact bodyPost_ret (retRow2 HR2.out Tryd.results17 _ (by rfl) (.int .i64 0) (by rfl) _ 32 Tryd.underlying26 rfl (by kernel_rfl) (by rw [b8_len]; exact rp_len s 64)) rfl ⟨by rw [HV.out]; rfl, HB2.out⟩
  · have t0 : ((s.size : Int) != 64) = true := by simp; omega
    have HV := hide (HNO.out (fun h => hs h.1))
    have HR2 := hide (HRA.out.put (b8 zH))
    have HB2 := hide (Below.setRowOwn HBA.out (Nat.le_refl w.heap.size) (b8 zH).toArray)
    clear hs
    go_enter Tryd.func17, Tryd.ntmps17
    go_upto_region 2 with (fail)
    rw [← EA.out]
    refine wp_region_lit ?_
    refine stepVal (v := .agg (b8 zH).toArray) (w' := Wa) (by rfl) (by kernel_rfl) ?_
    refine stepStore (by rfl) _ _ _ (by rfl) _ _ (by rfl) (by rfl) HRA.out 32 (by kernel_rfl) (by rw [b8_len]; rfl) (by rw [b8_len]; rfl) (oneCells_b8 _) ?_
    go_wp2_with fail
    exact bodyPost_ret (retRow2 HR2.out Tryd.results17 _ (by rfl) (.int .i64 5) (by rfl) _ 32 Tryd.underlying26 rfl (by kernel_rfl) (by rw [b8_len]; rfl)) rfl ⟨by rw [HV.out]; rfl, HB2.out⟩
end BlkT
end Go.Proofs.YtmdikdcbphogcaaDoor
