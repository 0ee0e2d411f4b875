/-
  WireNone walked.
-/
import Derived.Test.YtplinpbmncccoaaWirNA
namespace Go.Proofs.Ytplinpbmncccoaa
namespace WirNB
open Go.RowKit PaceA FltC
open BlkM WirM WirS WirA WirB WirC WirD WirE WirF WirG WirH WirI WirJ WirK WirL WirN WirO WirP WirQ WirR WirT WirU WirV WirW WirX WirZ WirNA

def MidN (W : World) (i : Value) (U : World) : Prop := ∃ k : Nat, k ≤ 2 ∧ i = .int .i64 (k : Int) ∧ Below W.heap.size W U
def zW : List Value := [.pointer none, .int .i64 0, .slice none 0 0, .int .i64 0]
def zR : List Value := [.pointer none, .slice none 0 0, .int .i64 0, .int .i64 0, .int .i64 0]
/-- The world behind the two lists. -/
def NW (u : World) (z : Nat) : World :=
  (((u.alloc (.cells zW.toArray 59)).alloc (.cells #[.pointer none, .pointer (some ⟨z, 0, none⟩)] 25)).alloc (.cells zR.toArray 62)).alloc (.cells #[.pointer none, .pointer (some ⟨z + 1 + 1, 0, none⟩)] 48)
theorem NW_all (u : World) (z : Nat) (hz : u.heap.size = z) : Below u.heap.size u (NW u z) ∧ At (NW u z) z 59 zW ∧ At (NW u z) (z + 1) 25 [.pointer none, .pointer (some ⟨z, 0, none⟩)] ∧ At (NW u z) (z + 1 + 1) 62 zR ∧ At (NW u z) (z + 1 + 1 + 1) 48 [.pointer none, .pointer (some ⟨z + 1 + 1, 0, none⟩)] := by
  subst hz
  have s1 := World.size_alloc u (.cells zW.toArray 59)
  have s2 := World.size_alloc (u.alloc (.cells zW.toArray 59)) (.cells #[.pointer none, .pointer (some ⟨u.heap.size, 0, none⟩)] 25)
  have s3 := World.size_alloc ((u.alloc (.cells zW.toArray 59)).alloc (.cells #[.pointer none, .pointer (some ⟨u.heap.size, 0, none⟩)] 25)) (.cells zR.toArray 62)
  refine ⟨Below.alloc (Below.alloc (Below.alloc (Below.alloc (Below.refl _ _) (Nat.le_refl _) _) (by omega) _) (by omega) _) (by omega) _, ?_, ?_, ?_, ?_⟩
  · exact At.alloc (At.alloc (At.alloc (At.new u _ zW) _) _) _
  · have := At.new (u.alloc (.cells zW.toArray 59)) 25 [.pointer none, .pointer (some ⟨u.heap.size, 0, none⟩)]
    rw [s1] at this
    exact At.alloc (At.alloc this _) _
  · have := At.new ((u.alloc (.cells zW.toArray 59)).alloc (.cells #[.pointer none, .pointer (some ⟨u.heap.size, 0, none⟩)] 25)) 62 zR
    rw [s2, s1] at this
    exact At.alloc this _
  · have := At.new (((u.alloc (.cells zW.toArray 59)).alloc (.cells #[.pointer none, .pointer (some ⟨u.heap.size, 0, none⟩)] 25)).alloc (.cells zR.toArray 62)) 48 [.pointer none, .pointer (some ⟨u.heap.size + 1 + 1, 0, none⟩)]
    rw [s3, s2, s1] at this
    exact this
theorem rangeAll {w : World} {b : Nat} {T : TypeId} {cs : List Value} (h : At w b T cs) : w.rangeAt b 0 cs := fun j v hj => by
  rw [h.cell, Nat.zero_add]
  exact hj
theorem neqH (U : World) : (binOp .neq 34 (.agg #[.int .u8 0, .int .u8 0, .int .u8 0, .int .u8 0, .int .u8 0, .int .u8 0, .int .u8 0, .int .u8 0, .int .u8 0, .int .u8 0, .int .u8 0, .int .u8 0, .int .u8 0, .int .u8 0, .int .u8 0, .int .u8 0, .int .u8 0, .int .u8 0, .int .u8 0, .int .u8 0, .int .u8 0, .int .u8 0, .int .u8 0, .int .u8 0, .int .u8 0, .int .u8 0, .int .u8 0, .int .u8 0, .int .u8 0, .int .u8 0, .int .u8 0, .int .u8 0]) (.agg #[.int .u8 0, .int .u8 0, .int .u8 0, .int .u8 0, .int .u8 0, .int .u8 0, .int .u8 0, .int .u8 0, .int .u8 0, .int .u8 0, .int .u8 0, .int .u8 0, .int .u8 0, .int .u8 0, .int .u8 0, .int .u8 0, .int .u8 0, .int .u8 0, .int .u8 0, .int .u8 0, .int .u8 0, .int .u8 0, .int .u8 0, .int .u8 0, .int .u8 0, .int .u8 0, .int .u8 0, .int .u8 0, .int .u8 0, .int .u8 0, .int .u8 0, .int .u8 0])).run Try.prog U = .ok (.bool false) U := by kernel_rfl
theorem neqK (U : World) : (binOp .neq 36 (.agg #[.int .u8 0, .int .u8 0, .int .u8 0, .int .u8 0]) (.agg #[.int .u8 0, .int .u8 0, .int .u8 0, .int .u8 0])).run Try.prog U = .ok (.bool false) U := by kernel_rfl
theorem neqF (U : World) : (binOp .neq 55 (.agg #[.int .i64 1, .int .i64 0]) (.agg #[.int .i64 1, .int .i64 0])).run Try.prog U = .ok (.bool false) U := by kernel_rfl
/-- A call that only makes memory. -/
def Mem (w : World) (v : Value) (e : Ending) (w' : World) : Prop := e = .returned v ∧ Below w.heap.size w w'
set_option maxRecDepth 10000 in
set_option maxHeartbeats 4000000 in
theorem none_any (w : World) (t : Td) (va : Option Addr) (vn vc : Nat) (zs : List Int) (ht : Wf w t va vn vc zs) :
    Calls Try.prog 5 #[.agg t.cells.toArray] w fun e w' => e = .returned (.bool true) ∧ Below w.heap.size w w' := by
  obtain ⟨W0, e0⟩ : ∃ X, X = PW w t := ⟨_, rfl⟩
  have hA0 : At W0 w.heap.size 39 t.cells := by rw [e0]; exact PW_at _ _
  have hB0 : Below w.heap.size w W0 := by rw [e0]; exact PW_below _ _
  have c2 : W0.cell? ⟨w.heap.size, 2, none⟩ = some (.slice va vn vc) := by rw [hA0.cell, ← ht.hv]; rfl
  have HB0 := WirS.hide hB0
  have E0 := WirS.hide e0
  by_cases h300 : vn ≤ 300
  · have t0 : ¬ (300 : Int) < (vn : Int) := by omega
    obtain ⟨z, hz⟩ : ∃ z, W0.heap.size = z := ⟨_, rfl⟩
    obtain ⟨W, eW⟩ : ∃ X, X = NW W0 z := ⟨_, rfl⟩
    obtain ⟨nb, n1, n2, n3, n4⟩ := NW_all W0 z hz
    rw [← eW] at nb n1 n2 n3 n4
    have hzw : w.heap.size < z := by rw [← hz]; exact hA0.lt
    have EW := WirS.hide eW
    have HZ := WirS.hide hz
    have HA := WirS.hide (hA0.below nb hA0.lt)
    have HBW := WirS.hide (HB0.out.trans (nb.mono HB0.out.size))
    have N1 := WirS.hide n1
    have N2 := WirS.hide n2
    have N3 := WirS.hide n3
    have N4 := WirS.hide n4
    have HT := WirS.hide ht
    have HL := WirS.hide h300
    clear hA0 hB0 e0 eW nb n1 n2 n3 n4 hz ht h300
    go_enter Try.func5, Try.ntmps5
    go_upto_region 1 with fail
    rw [show w.alloc (.cells t.cells.toArray 39) = W0 from E0.out.symm]
    go_upto_region 4 with fail
    rw [show (((W0.alloc (.cells #[.pointer none, .int .i64 0, .slice none 0 0, .int .i64 0] 59)).alloc (.cells #[.pointer none, .pointer (some ⟨W0.heap.size, 0, none⟩)] 25)).alloc (.cells #[.pointer none, .slice none 0 0, .int .i64 0, .int .i64 0, .int .i64 0] 62)).alloc (.cells #[.pointer none, .pointer (some ⟨W0.heap.size + 1 + 1, 0, none⟩)] 48) = W by rw [HZ.out]; exact EW.out.symm, HZ.out]
    go_wp2_with fail
    go_loopw [5] (fun i wr => MidN W i wr) (fun i _ => 2 - (intOf i).toNat)
    case atStart => exact ⟨0, by omega, rfl, Below.refl _ _⟩
    case round =>
      obtain ⟨k, hk, rfl, hB⟩ := hrel
      by_cases hlt : k < 2
      · have hk2 : (k : Int) < 2 := by omega
        obtain ⟨p, q, hp, hq, hp2, hq2, hps, hqs⟩ : ∃ p q : Option Addr, (∀ U, Below W.heap.size W U → U.cell? ⟨z + 1, k, none⟩ = some (.pointer p)) ∧ (∀ U, Below W.heap.size W U → U.cell? ⟨z + 1 + 1 + 1, k, none⟩ = some (.pointer q)) ∧ (∀ U, Below W.heap.size W U → NoW U p) ∧ (∀ U, Below W.heap.size W U → NoR U q) ∧ (∀ S, p = some ⟨S, 0, none⟩ → S < W.heap.size) ∧ (∀ S, q = some ⟨S, 0, none⟩ → S < W.heap.size) := by
          have h1 := fun U (hU : Below W.heap.size W U) => (N2.out.below hU N2.out.lt).cell k
          have h2 := fun U (hU : Below W.heap.size W U) => (N4.out.below hU N4.out.lt).cell k
          match k, hlt with
          | 0, _ => exact ⟨none, none, h1, h2, fun U _ => .inl rfl, fun U _ => .inl rfl, (fun S h => by cases h), (fun S h => by cases h)⟩
          | 1, _ => exact ⟨some ⟨z, 0, none⟩, some ⟨z + 1 + 1, 0, none⟩, h1, h2, fun U hU => .inr ⟨z, rfl, (N1.out.below hU N1.out.lt).cell 0⟩, fun U hU => .inr ⟨z + 1 + 1, rfl, (N3.out.below hU N3.out.lt).cell 0⟩, (fun S h => by cases h; exact N1.out.lt), (fun S h => by cases h; exact N3.out.lt)⟩
        have cp := hp wr hB
        have cq := hq wr hB
        have NP := WirS.hide hp2
        have NQ := WirS.hide hq2
        have PS := WirS.hide hps
        have QS := WirS.hide hqs
        have HB := WirS.hide hB
        clear hp hq hp2 hq2 hps hqs hB
        go_upto_region 7 with fail
        go_quiet (fail)
        obtain ⟨U1, eU1⟩ : ∃ X, X = wr.drewN nq := ⟨_, rfl⟩
        rw [← eU1]
        have HB1 := WirS.hide (show Below W.heap.size W U1 by rw [eU1]; exact below_drewN HB.out nq)
        have HN := WirS.hide (fun U (hU : Below W.heap.size W U) => show U.cell? ⟨w.heap.size, 1, none⟩ = some (.int .i64 t.n) from (HA.out.below hU HA.out.lt).cell 1)
        clear eU1 cp cq HB
        have HB := WirS.hide HB1.out
        clear HB1
        have c0 : U1.cell? ⟨w.heap.size, 0, none⟩ = some (.int .i64 t.kd) := (HA.out.below HB.out HA.out.lt).cell 0
        have nH := neqH
        have nK := neqK
        have nF := neqF
        go_upto_region 9 with ((go_at_call 27; refine (done_none _ p (NP.out _ HB.out)).mono ?_; rintro e u1 ⟨rfl, rfl⟩))
        by_cases hkd : 0 ≤ t.kd ∧ t.kd ≤ 7
        · obtain ⟨hk0, hk7⟩ := hkd
          have HP := WirS.hide (puts_none U1 p t va vn vc zs (HT.out.more HB.out HBW.out) (by have := HL.out; omega) (NP.out _ HB.out) (fun S hS => Nat.lt_of_lt_of_le (PS.out S hS) HB.out.size) ⟨hk0, hk7⟩)
          have g1 : (binOp .geq 3 (.int .i64 t.kd) (.int .i64 0)).run Try.prog U1 = .ok (.bool true) U1 := by simp [binOp, Op.intCmp, hk0]
          have g2 : (binOp .leq 3 (.int .i64 t.kd) (.int .i64 7)).run Try.prog U1 = .ok (.bool true) U1 := by simp [binOp, Op.intCmp, hk7]
          refine wp_region_lit ?_
          refine sV (.slice none 0 0) (U1) (by kernel_rfl) (by kernel_rfl) ?_
          simp only [Act.put, List.setIfInBounds_toArray, List.set_cons_succ, List.set_cons_zero]
          refine sV (.int .i64 0) (U1) (by kernel_rfl) (by kernel_rfl) ?_
          simp only [Act.put, List.setIfInBounds_toArray, List.set_cons_succ, List.set_cons_zero]
          refine sV (.bool false) (U1) (by kernel_rfl) (by kernel_rfl) ?_
          simp only [Act.put, List.setIfInBounds_toArray, List.set_cons_succ, List.set_cons_zero]
          refine sV (.bool false) (U1) (by kernel_rfl) (by kernel_rfl) ?_
          simp only [Act.put, List.setIfInBounds_toArray, List.set_cons_succ, List.set_cons_zero]
          refine sV (.int .i64 1) (U1) (by kernel_rfl) (by kernel_rfl) ?_
          simp only [Act.put, List.setIfInBounds_toArray, List.set_cons_succ, List.set_cons_zero]
          refine sV (.bool false) (U1) (by kernel_rfl) (by kernel_rfl) ?_
          simp only [Act.put, List.setIfInBounds_toArray, List.set_cons_succ, List.set_cons_zero]
          refine sV (.bool false) (U1) (by kernel_rfl) (by kernel_rfl) ?_
          simp only [Act.put, List.setIfInBounds_toArray, List.set_cons_succ, List.set_cons_zero]
          refine sV (.bool false) (U1) (by kernel_rfl) (by kernel_rfl) ?_
          simp only [Act.put, List.setIfInBounds_toArray, List.set_cons_succ, List.set_cons_zero]
          refine sV (.pointer (some ⟨w.heap.size, 0, none⟩)) (U1) (by kernel_rfl) (by kernel_rfl) ?_
          simp only [Act.put, List.setIfInBounds_toArray, List.set_cons_succ, List.set_cons_zero]
          refine sP (by kernel_rfl) _ _ (by rfl) ⟨w.heap.size, 0, none⟩ (by kernel_rfl) (.int .i64 t.kd) c0 (by kernel_rfl) ?_
          simp only [Act.put, List.setIfInBounds_toArray, List.set_cons_succ, List.set_cons_zero]
          refine sB (by kernel_rfl) .geq _ _ _ _ (by rfl) (.int .i64 t.kd) (.int .i64 0) (by kernel_rfl) (by kernel_rfl) (.bool true) g1 (by kernel_rfl) ?_
          simp only [Act.put, List.setIfInBounds_toArray, List.set_cons_succ, List.set_cons_zero]
          refine sV (.bool true) (U1) (by kernel_rfl) (by kernel_rfl) ?_
          simp only [Act.put, List.setIfInBounds_toArray, List.set_cons_succ, List.set_cons_zero]
          refine sV (.pointer (some ⟨w.heap.size, 0, none⟩)) (U1) (by kernel_rfl) (by kernel_rfl) ?_
          simp only [Act.put, List.setIfInBounds_toArray, List.set_cons_succ, List.set_cons_zero]
          refine sP (by kernel_rfl) _ _ (by rfl) ⟨w.heap.size, 0, none⟩ (by kernel_rfl) (.int .i64 t.kd) c0 (by kernel_rfl) ?_
          simp only [Act.put, List.setIfInBounds_toArray, List.set_cons_succ, List.set_cons_zero]
          refine sB (by kernel_rfl) .leq _ _ _ _ (by rfl) (.int .i64 t.kd) (.int .i64 7) (by kernel_rfl) (by kernel_rfl) (.bool true) g2 (by kernel_rfl) ?_
          simp only [Act.put, List.setIfInBounds_toArray, List.set_cons_succ, List.set_cons_zero]
          refine sV (.bool true) (U1) (by kernel_rfl) (by kernel_rfl) ?_
          simp only [Act.put, List.setIfInBounds_toArray, List.set_cons_succ, List.set_cons_zero]
          refine sV (.bool true) (U1) (by kernel_rfl) (by kernel_rfl) ?_
          simp only [Act.put, List.setIfInBounds_toArray, List.set_cons_succ, List.set_cons_zero]
          refine sV (.pointer p) (U1) (by kernel_rfl) (by kernel_rfl) ?_
          simp only [Act.put, List.setIfInBounds_toArray, List.set_cons_succ, List.set_cons_zero]
          refine sL (by kernel_rfl) _ _ (by rfl) _ (by kernel_rfl) (HA.out.below HB.out HA.out.lt) _ 41 Try.underlying39 rfl (by kernel_rfl) t.len ?_
          simp only [Act.put, List.setIfInBounds_toArray, List.set_cons_succ, List.set_cons_zero]
          refine sC (v := .int .i64 1) (R := fun w' => Below U1.heap.size U1 w') (by kernel_rfl) (by kernel_rfl) HP.out ?_
          intro u9 hb9
          simp only [Act.put, List.setIfInBounds_toArray, List.set_cons_succ, List.set_cons_zero]
          have HX := WirS.hide (HB.out.trans (hb9.mono HB.out.size))
          clear hb9 HP c0 g1 g2 HB
          have HB := WirS.hide HX.out
          clear HX
          refine sV (.bool false) (u9) (by kernel_rfl) (by kernel_rfl) ?_
          simp only [Act.put, List.setIfInBounds_toArray, List.set_cons_succ, List.set_cons_zero]
          refine sV (.bool false) (u9) (by kernel_rfl) (by kernel_rfl) ?_
          simp only [Act.put, List.setIfInBounds_toArray, List.set_cons_succ, List.set_cons_zero]
          refine sV (.bool false) (u9) (by kernel_rfl) (by kernel_rfl) ?_
          simp only [Act.put, List.setIfInBounds_toArray, List.set_cons_succ, List.set_cons_zero]
          have cN0 := HN.out _ HB.out
          go_wp2_with (first | ((go_at_call 37; refine (num_none _ q (NQ.out _ HB.out) (fun S hS => Nat.lt_of_lt_of_le (QS.out S hS) HB.out.size)).mono ?_; rintro e u1 ⟨rfl, hb⟩; have HX := WirS.hide (HB.out.trans (hb.mono HB.out.size)); clear hb HB; have HB := WirS.hide HX.out; clear HX; have cN := HN.out _ HB.out)) | ((go_at_call 38; refine (text_none _ q t.n (NQ.out _ HB.out) (fun S hS => Nat.lt_of_lt_of_le (QS.out S hS) HB.out.size)).mono ?_; rintro e u1 ⟨rfl, hb⟩; have HX := WirS.hide (HB.out.trans (hb.mono HB.out.size)); clear hb HB; have HB := WirS.hide HX.out; clear HX; have cN := HN.out _ HB.out)) | ((go_at_call 39; refine (bytes_none _ q t.n (NQ.out _ HB.out) (fun S hS => Nat.lt_of_lt_of_le (QS.out S hS) HB.out.size)).mono ?_; rintro e u1 ⟨rfl, hb⟩; have HX := WirS.hide (HB.out.trans (hb.mono HB.out.size)); clear hb HB; have HB := WirS.hide HX.out; clear HX)) | ((go_at_call 40; refine ((show Calls _ _ _ _ (Mem _ (.agg #[.int .u8 0, .int .u8 0, .int .u8 0, .int .u8 0, .int .u8 0, .int .u8 0, .int .u8 0, .int .u8 0, .int .u8 0, .int .u8 0, .int .u8 0, .int .u8 0, .int .u8 0, .int .u8 0, .int .u8 0, .int .u8 0, .int .u8 0, .int .u8 0, .int .u8 0, .int .u8 0, .int .u8 0, .int .u8 0, .int .u8 0, .int .u8 0, .int .u8 0, .int .u8 0, .int .u8 0, .int .u8 0, .int .u8 0, .int .u8 0, .int .u8 0, .int .u8 0])) from hash_none _ q (NQ.out _ HB.out) (fun S hS => Nat.lt_of_lt_of_le (QS.out S hS) HB.out.size))).mono ?_; rintro e u1 ⟨rfl, hb⟩; have HX := WirS.hide (HB.out.trans (hb.mono HB.out.size)); clear hb HB; have HB := WirS.hide HX.out; clear HX)) | ((go_at_call 41; refine ((show Calls _ _ _ _ (Mem _ (.agg #[.int .u8 0, .int .u8 0, .int .u8 0, .int .u8 0])) from key_none _ q (NQ.out _ HB.out) (fun S hS => Nat.lt_of_lt_of_le (QS.out S hS) HB.out.size))).mono ?_; rintro e u1 ⟨rfl, hb⟩; have HX := WirS.hide (HB.out.trans (hb.mono HB.out.size)); clear hb HB; have HB := WirS.hide HX.out; clear HX)) | ((go_at_call 42; refine (word_none _ q (NQ.out _ HB.out) (fun S hS => Nat.lt_of_lt_of_le (QS.out S hS) HB.out.size)).mono ?_; rintro e u1 ⟨rfl, hb⟩; have HX := WirS.hide (HB.out.trans (hb.mono HB.out.size)); clear hb HB; have HB := WirS.hide HX.out; clear HX)) | ((go_at_call 43; refine (pace_none _ q (NQ.out _ HB.out) (fun S hS => Nat.lt_of_lt_of_le (QS.out S hS) HB.out.size)).mono ?_; rintro e u1 ⟨rfl, hb⟩; have HX := WirS.hide (HB.out.trans (hb.mono HB.out.size)); clear hb HB; have HB := WirS.hide HX.out; clear HX)) | ((go_at_call 44; refine (bool_none _ q (NQ.out _ HB.out) (fun S hS => Nat.lt_of_lt_of_le (QS.out S hS) HB.out.size)).mono ?_; rintro e u1 ⟨rfl, hb⟩; have HX := WirS.hide (HB.out.trans (hb.mono HB.out.size)); clear hb HB; have HB := WirS.hide HX.out; clear HX)) | ((go_at_call 33; refine (rest_none _ q (NQ.out _ HB.out)).mono ?_; rintro e u1 ⟨rfl, rfl⟩)) | ((go_at_call 35; refine ((show Calls _ _ _ _ (Mem _ (.agg #[.int .i64 1, .int .i64 0])) from end_none _ q (NQ.out _ HB.out) (fun S hS => Nat.lt_of_lt_of_le (QS.out S hS) HB.out.size))).mono ?_; rintro e u1 ⟨rfl, hb⟩; have HX := WirS.hide (HB.out.trans (hb.mono HB.out.size)); clear hb HB; have HB := WirS.hide HX.out; clear HX)))
          go_roundw
          case rel => exact ⟨k + 1, by omega, by go_num, HB.out⟩
          case measure => simp [intOf]; omega
        · have hkk : t.kd < 0 ∨ (0 ≤ t.kd ∧ 7 < t.kd) := by omega
          have cN0 := HN.out _ HB.out
          rcases hkk with hneg | ⟨hk0, hk7⟩
          · clear hkd
            go_wp2_with (first | ((go_at_call 37; refine (num_none _ q (NQ.out _ HB.out) (fun S hS => Nat.lt_of_lt_of_le (QS.out S hS) HB.out.size)).mono ?_; rintro e u1 ⟨rfl, hb⟩; have HX := WirS.hide (HB.out.trans (hb.mono HB.out.size)); clear hb HB; have HB := WirS.hide HX.out; clear HX; have cN := HN.out _ HB.out)) | ((go_at_call 38; refine (text_none _ q t.n (NQ.out _ HB.out) (fun S hS => Nat.lt_of_lt_of_le (QS.out S hS) HB.out.size)).mono ?_; rintro e u1 ⟨rfl, hb⟩; have HX := WirS.hide (HB.out.trans (hb.mono HB.out.size)); clear hb HB; have HB := WirS.hide HX.out; clear HX; have cN := HN.out _ HB.out)) | ((go_at_call 39; refine (bytes_none _ q t.n (NQ.out _ HB.out) (fun S hS => Nat.lt_of_lt_of_le (QS.out S hS) HB.out.size)).mono ?_; rintro e u1 ⟨rfl, hb⟩; have HX := WirS.hide (HB.out.trans (hb.mono HB.out.size)); clear hb HB; have HB := WirS.hide HX.out; clear HX)) | ((go_at_call 40; refine ((show Calls _ _ _ _ (Mem _ (.agg #[.int .u8 0, .int .u8 0, .int .u8 0, .int .u8 0, .int .u8 0, .int .u8 0, .int .u8 0, .int .u8 0, .int .u8 0, .int .u8 0, .int .u8 0, .int .u8 0, .int .u8 0, .int .u8 0, .int .u8 0, .int .u8 0, .int .u8 0, .int .u8 0, .int .u8 0, .int .u8 0, .int .u8 0, .int .u8 0, .int .u8 0, .int .u8 0, .int .u8 0, .int .u8 0, .int .u8 0, .int .u8 0, .int .u8 0, .int .u8 0, .int .u8 0, .int .u8 0])) from hash_none _ q (NQ.out _ HB.out) (fun S hS => Nat.lt_of_lt_of_le (QS.out S hS) HB.out.size))).mono ?_; rintro e u1 ⟨rfl, hb⟩; have HX := WirS.hide (HB.out.trans (hb.mono HB.out.size)); clear hb HB; have HB := WirS.hide HX.out; clear HX)) | ((go_at_call 41; refine ((show Calls _ _ _ _ (Mem _ (.agg #[.int .u8 0, .int .u8 0, .int .u8 0, .int .u8 0])) from key_none _ q (NQ.out _ HB.out) (fun S hS => Nat.lt_of_lt_of_le (QS.out S hS) HB.out.size))).mono ?_; rintro e u1 ⟨rfl, hb⟩; have HX := WirS.hide (HB.out.trans (hb.mono HB.out.size)); clear hb HB; have HB := WirS.hide HX.out; clear HX)) | ((go_at_call 42; refine (word_none _ q (NQ.out _ HB.out) (fun S hS => Nat.lt_of_lt_of_le (QS.out S hS) HB.out.size)).mono ?_; rintro e u1 ⟨rfl, hb⟩; have HX := WirS.hide (HB.out.trans (hb.mono HB.out.size)); clear hb HB; have HB := WirS.hide HX.out; clear HX)) | ((go_at_call 43; refine (pace_none _ q (NQ.out _ HB.out) (fun S hS => Nat.lt_of_lt_of_le (QS.out S hS) HB.out.size)).mono ?_; rintro e u1 ⟨rfl, hb⟩; have HX := WirS.hide (HB.out.trans (hb.mono HB.out.size)); clear hb HB; have HB := WirS.hide HX.out; clear HX)) | ((go_at_call 44; refine (bool_none _ q (NQ.out _ HB.out) (fun S hS => Nat.lt_of_lt_of_le (QS.out S hS) HB.out.size)).mono ?_; rintro e u1 ⟨rfl, hb⟩; have HX := WirS.hide (HB.out.trans (hb.mono HB.out.size)); clear hb HB; have HB := WirS.hide HX.out; clear HX)) | ((go_at_call 33; refine (rest_none _ q (NQ.out _ HB.out)).mono ?_; rintro e u1 ⟨rfl, rfl⟩)) | ((go_at_call 35; refine ((show Calls _ _ _ _ (Mem _ (.agg #[.int .i64 1, .int .i64 0])) from end_none _ q (NQ.out _ HB.out) (fun S hS => Nat.lt_of_lt_of_le (QS.out S hS) HB.out.size))).mono ?_; rintro e u1 ⟨rfl, hb⟩; have HX := WirS.hide (HB.out.trans (hb.mono HB.out.size)); clear hb HB; have HB := WirS.hide HX.out; clear HX)))
            go_roundw
            case rel => exact ⟨k + 1, by omega, by go_num, HB.out⟩
            case measure => simp [intOf]; omega
          · clear hkd
            go_wp2_with (first | ((go_at_call 37; refine (num_none _ q (NQ.out _ HB.out) (fun S hS => Nat.lt_of_lt_of_le (QS.out S hS) HB.out.size)).mono ?_; rintro e u1 ⟨rfl, hb⟩; have HX := WirS.hide (HB.out.trans (hb.mono HB.out.size)); clear hb HB; have HB := WirS.hide HX.out; clear HX; have cN := HN.out _ HB.out)) | ((go_at_call 38; refine (text_none _ q t.n (NQ.out _ HB.out) (fun S hS => Nat.lt_of_lt_of_le (QS.out S hS) HB.out.size)).mono ?_; rintro e u1 ⟨rfl, hb⟩; have HX := WirS.hide (HB.out.trans (hb.mono HB.out.size)); clear hb HB; have HB := WirS.hide HX.out; clear HX; have cN := HN.out _ HB.out)) | ((go_at_call 39; refine (bytes_none _ q t.n (NQ.out _ HB.out) (fun S hS => Nat.lt_of_lt_of_le (QS.out S hS) HB.out.size)).mono ?_; rintro e u1 ⟨rfl, hb⟩; have HX := WirS.hide (HB.out.trans (hb.mono HB.out.size)); clear hb HB; have HB := WirS.hide HX.out; clear HX)) | ((go_at_call 40; refine ((show Calls _ _ _ _ (Mem _ (.agg #[.int .u8 0, .int .u8 0, .int .u8 0, .int .u8 0, .int .u8 0, .int .u8 0, .int .u8 0, .int .u8 0, .int .u8 0, .int .u8 0, .int .u8 0, .int .u8 0, .int .u8 0, .int .u8 0, .int .u8 0, .int .u8 0, .int .u8 0, .int .u8 0, .int .u8 0, .int .u8 0, .int .u8 0, .int .u8 0, .int .u8 0, .int .u8 0, .int .u8 0, .int .u8 0, .int .u8 0, .int .u8 0, .int .u8 0, .int .u8 0, .int .u8 0, .int .u8 0])) from hash_none _ q (NQ.out _ HB.out) (fun S hS => Nat.lt_of_lt_of_le (QS.out S hS) HB.out.size))).mono ?_; rintro e u1 ⟨rfl, hb⟩; have HX := WirS.hide (HB.out.trans (hb.mono HB.out.size)); clear hb HB; have HB := WirS.hide HX.out; clear HX)) | ((go_at_call 41; refine ((show Calls _ _ _ _ (Mem _ (.agg #[.int .u8 0, .int .u8 0, .int .u8 0, .int .u8 0])) from key_none _ q (NQ.out _ HB.out) (fun S hS => Nat.lt_of_lt_of_le (QS.out S hS) HB.out.size))).mono ?_; rintro e u1 ⟨rfl, hb⟩; have HX := WirS.hide (HB.out.trans (hb.mono HB.out.size)); clear hb HB; have HB := WirS.hide HX.out; clear HX)) | ((go_at_call 42; refine (word_none _ q (NQ.out _ HB.out) (fun S hS => Nat.lt_of_lt_of_le (QS.out S hS) HB.out.size)).mono ?_; rintro e u1 ⟨rfl, hb⟩; have HX := WirS.hide (HB.out.trans (hb.mono HB.out.size)); clear hb HB; have HB := WirS.hide HX.out; clear HX)) | ((go_at_call 43; refine (pace_none _ q (NQ.out _ HB.out) (fun S hS => Nat.lt_of_lt_of_le (QS.out S hS) HB.out.size)).mono ?_; rintro e u1 ⟨rfl, hb⟩; have HX := WirS.hide (HB.out.trans (hb.mono HB.out.size)); clear hb HB; have HB := WirS.hide HX.out; clear HX)) | ((go_at_call 44; refine (bool_none _ q (NQ.out _ HB.out) (fun S hS => Nat.lt_of_lt_of_le (QS.out S hS) HB.out.size)).mono ?_; rintro e u1 ⟨rfl, hb⟩; have HX := WirS.hide (HB.out.trans (hb.mono HB.out.size)); clear hb HB; have HB := WirS.hide HX.out; clear HX)) | ((go_at_call 33; refine (rest_none _ q (NQ.out _ HB.out)).mono ?_; rintro e u1 ⟨rfl, rfl⟩)) | ((go_at_call 35; refine ((show Calls _ _ _ _ (Mem _ (.agg #[.int .i64 1, .int .i64 0])) from end_none _ q (NQ.out _ HB.out) (fun S hS => Nat.lt_of_lt_of_le (QS.out S hS) HB.out.size))).mono ?_; rintro e u1 ⟨rfl, hb⟩; have HX := WirS.hide (HB.out.trans (hb.mono HB.out.size)); clear hb HB; have HB := WirS.hide HX.out; clear HX)))
            go_roundw
            case rel => exact ⟨k + 1, by omega, by go_num, HB.out⟩
            case measure => simp [intOf]; omega
      · obtain rfl : k = 2 := by omega
        have HB := WirS.hide (HBW.out.trans (hB.mono HBW.out.size))
        clear hB
        go_wp2_with ((go_at_call 19; refine (awake_any _).mono ?_; rintro e w1 ⟨rfl, hb⟩))
        go_ret
        exact ⟨rfl, HB.out.trans (hb.mono HB.out.size)⟩
  · have t0 : (300 : Int) < (vn : Int) := by omega
    clear hA0 hB0 e0
    go_enter Try.func5, Try.ntmps5
    go_upto_region 1 with fail
    rw [show w.alloc (.cells t.cells.toArray 39) = W0 from E0.out.symm]
    go_wp2_with ((go_at_call 19; refine (awake_any _).mono ?_; rintro e w1 ⟨rfl, hb⟩))
    go_ret
    exact ⟨rfl, HB0.out.trans (hb.mono HB0.out.size)⟩
end WirNB
end Go.Proofs.Ytplinpbmncccoaa
