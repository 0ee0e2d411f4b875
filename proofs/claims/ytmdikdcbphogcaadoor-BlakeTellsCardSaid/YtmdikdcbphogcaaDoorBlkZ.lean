/-
  The document's Compare and digits.
-/
import Derived.Test.YtmdikdcbphogcaaDoorBlkX
namespace Go.Proofs.YtmdikdcbphogcaaDoor
namespace BlkZ
open Go.RowKit Go.Lib
open BlkM BlkA BlkI BlkJ BlkK BlkL BlkO BlkP BlkX HexM

/-! ### Compare -/
theorem cmp_drop (a b : List Int) (la : a.length = 32) (lb : b.length = 32) (ra : rng a) (rb : rng b) : ∀ k, k ≤ 32 → (∀ i, i < k → a.getD i 0 = b.getD i 0) → cmpI a b = cmpI (a.drop k) (b.drop k)
  | 0, _, _ => rfl
  | k + 1, hk, h => by
    rw [cmp_drop a b la lb ra rb k (by omega) (fun i hi => h i (by omega))]
    have ha : k < a.length := by omega
    have hb : k < b.length := by omega
    have e := h k (by omega)
    rw [List.getD_eq_getElem?_getD, List.getElem?_eq_getElem ha, List.getD_eq_getElem?_getD, List.getElem?_eq_getElem hb] at e
    have e2 : a[k] = b[k] := e
    rw [List.drop_eq_getElem_cons ha, List.drop_eq_getElem_cons hb, e2]
    have hr := rb b[k] (List.getElem_mem hb)
    rw [cmp_cons _ _ _ _ (by omega) (by omega), if_neg (by omega), if_neg (by omega)]
theorem cmp_at (a b : List Int) (la : a.length = 32) (lb : b.length = 32) (ra : rng a) (rb : rng b) (k : Nat) (hk : k < 32) (h : ∀ i, i < k → a.getD i 0 = b.getD i 0) :
    (a.getD k 0 < b.getD k 0 → cmpI a b = -1) ∧ (b.getD k 0 < a.getD k 0 → cmpI a b = 1) := by
  rw [cmp_drop a b la lb ra rb k (by omega) h]
  have ha : k < a.length := by omega
  have hb : k < b.length := by omega
  have e1 : a.getD k 0 = a[k] := by rw [List.getD_eq_getElem?_getD, List.getElem?_eq_getElem ha]; rfl
  have e2 : b.getD k 0 = b[k] := by rw [List.getD_eq_getElem?_getD, List.getElem?_eq_getElem hb]; rfl
  have r1 := ra a[k] (List.getElem_mem ha)
  have r2 := rb b[k] (List.getElem_mem hb)
  rw [List.drop_eq_getElem_cons ha, List.drop_eq_getElem_cons hb, cmp_cons _ _ _ _ (by omega) (by omega), e1, e2]
  constructor
  · intro h; rw [if_pos (by omega)]
  · intro h; rw [if_neg (by omega), if_pos (by omega)]
theorem cmp_same (a b : List Int) (la : a.length = 32) (lb : b.length = 32) (ra : rng a) (rb : rng b) (h : ∀ i, i < 32 → a.getD i 0 = b.getD i 0) : cmpI a b = 0 := by
  rw [cmp_drop a b la lb ra rb 32 (Nat.le_refl _) h, List.drop_of_length_le (by omega), List.drop_of_length_le (by omega)]
  rfl
def MidC (w : World) (a b : List Int) (i : Value) (U : World) : Prop :=
  ∃ k : Nat, k ≤ 32 ∧ i = .int .i64 (k : Int) ∧ At U w.heap.size 26 (b8 a) ∧ At U (w.heap.size + 1) 26 (b8 b) ∧ Below w.heap.size w U ∧ ∀ i, i < k → a.getD i 0 = b.getD i 0
set_option maxRecDepth 10000 in
set_option maxHeartbeats 2000000 in
theorem rcompare_any (w : World) (a b : List Int) (la : a.length = 32) (lb : b.length = 32) (ra : rng a) (rb : rng b) :
    Calls Tryd.prog 21 #[.agg (b8 a).toArray, .agg (b8 b).toArray] w fun e w' => e = .returned (.int .i64 (cmpI a b)) ∧ Below w.heap.size w w' := by
  obtain ⟨W0, eW0⟩ : ∃ X, X = (w.alloc (.cells (b8 a).toArray 26)).alloc (.cells (b8 b).toArray 26) := ⟨_, rfl⟩
  have hA : At W0 w.heap.size 26 (b8 a) := by rw [eW0]; exact At.alloc (At.new w _ _) _
  have hB : At W0 (w.heap.size + 1) 26 (b8 b) := by
    rw [eW0]
    have := At.new (w.alloc (.cells (b8 a).toArray 26)) 26 (b8 b)
    rw [World.size_alloc] at this
    exact this
  have hb0 : Below w.heap.size w W0 := by rw [eW0]; exact Below.alloc (Below.alloc (Below.refl _ _) (Nat.le_refl _) _) (by simp) _
  have HST := hide (show MidC w a b (.int .i64 0) W0 from ⟨0, by omega, rfl, hA, hB, hb0, fun i hi => absurd hi (by omega)⟩)
  have LA := hide la
  have LB := hide lb
  have CA := hide (cmp_at a b la lb ra rb)
  have CS := hide (cmp_same a b la lb ra rb)
  have E0 := hide eW0
  obtain ⟨r, hr⟩ : ∃ r, r = cmpI a b := ⟨_, rfl⟩
  rw [← hr]
  have HR := hide hr
  clear eW0 hA hB hb0 la lb ra rb hr
  go_enter Tryd.func21, Tryd.ntmps21
  go_upto_region 1 with fail
  rw [← E0.out]
  go_wp2_with fail
  go_loopw [5] (fun i wr => MidC w a b i wr) (fun i _ => 32 - (intOf i).toNat)
  case atStart => exact HST.out
  case round =>
    obtain ⟨k, hk, rfl, hA, hB, hb, hpre⟩ := hrel
    by_cases hlt : k < 32
    · obtain ⟨x, hx⟩ : ∃ x, a.getD k 0 = x := ⟨_, rfl⟩
      obtain ⟨y, hy⟩ : ∃ y, b.getD k 0 = y := ⟨_, rfl⟩
      have cx := hA.cell k
      have cy := hB.cell k
      rw [b8_get a k (by rw [LA.out]; exact hlt), hx] at cx
      rw [b8_get b k (by rw [LB.out]; exact hlt), hy] at cy
      have hk2 : (k : Int) < 32 := by omega
      have hc := CA.out k hlt hpre
      rw [hx, hy, ← HR.out] at hc
      have HX := hide hx
      have HY := hide hy
      have HA := hide hA
      have HB := hide hB
      have Hb := hide hb
      have HP := hide hpre
      clear hx hy hA hB hb hpre
      rcases Int.lt_trichotomy x y with h | h | h
      · have hv := hc.1 h
        subst hv
        clear hc HR
        go_wp2_with fail
        go_quiet (fail)
        go_wp2_with fail
        go_ret
        exact ⟨rfl, below_drewN Hb.out _⟩
      · subst h
        have h1 : ¬ x < x := by omega
        clear hc
        go_wp2_with fail
        go_quiet (fail)
        obtain ⟨W1, eW1⟩ : ∃ X, X = wr.drewN nq := ⟨_, rfl⟩
        rw [← eW1]
        have cx1 : W1.cell? ⟨w.heap.size, k, none⟩ = some (.int .u8 x) := by rw [eW1]; exact cx
        have cy1 : W1.cell? ⟨w.heap.size + 1, k, none⟩ = some (.int .u8 x) := by rw [eW1]; exact cy
        have HA1 := hide (show At W1 w.heap.size 26 (b8 a) by rw [eW1]; exact HA.out)
        have HB1 := hide (show At W1 (w.heap.size + 1) 26 (b8 b) by rw [eW1]; exact HB.out)
        have Hb1 := hide (show Below w.heap.size w W1 by rw [eW1]; exact below_drewN Hb.out _)
        clear eW1 cx cy HA HB Hb
        go_wp2_with fail
        go_quiet (fail)
        go_wp2_with fail
        go_roundw
        case rel =>
          refine ⟨k + 1, by omega, by go_num, HA1.out, HB1.out, below_drewN Hb1.out _, fun i hi => ?_⟩
          by_cases e : i = k
          · rw [e, HX.out, HY.out]
          · exact HP.out i (by omega)
        case measure => simp [intOf]; omega
      · have hv := hc.2 h
        have h1 : ¬ x < y := by omega
        subst hv
        clear hc HR
        go_wp2_with fail
        go_quiet (fail)
        obtain ⟨W1, eW1⟩ : ∃ X, X = wr.drewN nq := ⟨_, rfl⟩
        rw [← eW1]
        have cx1 : W1.cell? ⟨w.heap.size, k, none⟩ = some (.int .u8 x) := by rw [eW1]; exact cx
        have cy1 : W1.cell? ⟨w.heap.size + 1, k, none⟩ = some (.int .u8 y) := by rw [eW1]; exact cy
        have Hb1 := hide (show Below w.heap.size w W1 by rw [eW1]; exact below_drewN Hb.out _)
        clear eW1 cx cy HA HB Hb
        go_wp2_with fail
        go_quiet (fail)
        go_wp2_with fail
        go_ret
        exact ⟨rfl, below_drewN Hb1.out _⟩
    · obtain rfl : k = 32 := by omega
      have hv := CS.out hpre
      rw [← HR.out] at hv
      subst hv
      have Hb := hide hb
      clear hA hB hb hpre
      go_wp2_with fail
      go_ret
      exact ⟨rfl, Hb.out⟩

/-! ### A digit -/
theorem dig_spec (c : UInt8) : dN c = if 48 ≤ c.toNat ∧ c.toNat ≤ 57 then c.toNat - 48 else if 97 ≤ c.toNat ∧ c.toNat ≤ 102 then c.toNat - 87 else 16 :=
  forall_byte (p := fun c => dN c = if 48 ≤ c.toNat ∧ c.toNat ≤ 57 then c.toNat - 48 else if 97 ≤ c.toNat ∧ c.toNat ≤ 102 then c.toNat - 87 else 16) (by decide +kernel) c
set_option maxHeartbeats 1000000 in
theorem rdig_any (c : UInt8) (w : World) : Calls Tryd.prog 47 #[.int .u8 (c.toNat : Int)] w fun e w' => e = .returned (.int .u8 (dN c : Int)) ∧ w = w' := by
  have hs := dig_spec c
  have hlt := c.toNat_lt
  obtain ⟨d, hd⟩ : ∃ d, dN c = d := ⟨_, rfl⟩
  obtain ⟨x, hx⟩ : ∃ x, c.toNat = x := ⟨_, rfl⟩
  rw [hd, hx] at hs
  rw [hx] at hlt
  rw [hd, hx]
  clear hd hx
  by_cases a : 48 ≤ x ∧ x ≤ 57
  · rw [if_pos a] at hs
    obtain ⟨a1, a2⟩ := a
    have e : (d : Int) = (x : Int) - 48 := by omega
    have b1 : (48 : Int) ≤ (x : Int) := by omega
    have b2 : (x : Int) ≤ 57 := by omega
    have b3 : ((x : Int) - 48) % 256 = (x : Int) - 48 := by omega
    rw [e]
    clear hs e
    go_enter Tryd.func47, Tryd.ntmps47
    go_wp2
    go_ret
    exact ⟨rfl, rfl⟩
  · rw [if_neg a] at hs
    by_cases b : 97 ≤ x ∧ x ≤ 102
    · rw [if_pos b] at hs
      have e : (d : Int) = (x : Int) - 97 + 10 := by omega
      have b1 : (48 : Int) ≤ (x : Int) := by omega
      have b2 : ¬ (x : Int) ≤ 57 := by omega
      have b4 : (97 : Int) ≤ (x : Int) := by omega
      have b5 : (x : Int) ≤ 102 := by omega
      have b3 : ((x : Int) - 97) % 256 = (x : Int) - 97 := by omega
      have b6 : ((x : Int) - 97 + 10) % 256 = (x : Int) - 97 + 10 := by omega
      rw [e]
      clear hs e a b
      go_enter Tryd.func47, Tryd.ntmps47
      go_wp2
      go_ret
      exact ⟨rfl, rfl⟩
    · rw [if_neg b] at hs
      have e : (d : Int) = 16 := by omega
      rw [e]
      clear hs e
      by_cases a1 : 48 ≤ x
      · have c1 : (48 : Int) ≤ (x : Int) := by omega
        have c2 : ¬ (x : Int) ≤ 57 := by omega
        by_cases b1 : 97 ≤ x
        · have c3 : (97 : Int) ≤ (x : Int) := by omega
          have c4 : ¬ (x : Int) ≤ 102 := by omega
          clear a b
          go_enter Tryd.func47, Tryd.ntmps47
          go_wp2
          go_ret
          exact ⟨rfl, rfl⟩
        · have c3 : ¬ (97 : Int) ≤ (x : Int) := by omega
          clear a b
          go_enter Tryd.func47, Tryd.ntmps47
          go_wp2
          go_ret
          exact ⟨rfl, rfl⟩
      · have c1 : ¬ (48 : Int) ≤ (x : Int) := by omega
        have c3 : ¬ (97 : Int) ≤ (x : Int) := by omega
        clear a b
        go_enter Tryd.func47, Tryd.ntmps47
        go_wp2
        go_ret
        exact ⟨rfl, rfl⟩
end BlkZ
end Go.Proofs.YtmdikdcbphogcaaDoor
