/-
  CmZ, CmOv, CmAd, CmW, in one text.
-/
import Derived.Test.YtplinpbmncccoaaPkCb
import Derived.Test.YtplinpbmncccoaaPkCa
import Derived.Test.YtplinpbmncccoaaCmQ
import Derived.Test.YtplinpbmncccoaaCmB
import Derived.Test.YtplinpbmncccoaaWirO1
namespace Go.Proofs.Ytplinpbmncccoaa
namespace CmZ
open Go.RowKit
open BlkM WirM WirS CmA CmP CmB CmE CmI CmJ CmT CmU CmV CmXB CmXC CmY
open CmL (build_ccl neHg range_hash neI0 wpList_load_mid' joinO JP)
open WirX (Thg Bag)
open WirAA (box bag_box bag_set)
open WirAB (sCx)

theorem ixT (B o ln lc k : Nat) (hk : k < ln) (W : World) : (Instr.indexAt 93 (.slice (some ⟨B, o, none⟩) ln lc) (.int .i64 (k : Int))).run Try.prog W = .ok (.pointer (some ⟨B, o + k * 2, none⟩)) W := by
  have hs : (sizeOf (Try.prog.elem 93)).run Try.prog W = .ok 2 W := by kernel_rfl
  simp [Instr.indexAt, run_underlying Try.underlying93, asIntOf, go_sem]
  intro h
  omega
theorem opX (a : Operand → Value) (ob : Oper) (x y : Operand) (B o ln lc k : Nat) (ho : ob.op = Op.indexAddr 93 x y) (hx : a x = .slice (some ⟨B, o, none⟩) ln lc) (hy : a y = .int .i64 (k : Int)) (hk : k < ln) (W : World) :
    (execOp a ob).run Try.prog W = .ok (.value (.pointer (some ⟨B, o + k * 2, none⟩))) W := by
  unfold execOp
  rw [ho]
  simp only [hx, hy]
  simp [ixT B o ln lc k hk W]
/-- What Join says behind its checks. -/
def JQ (w : World) (ht : Int) (h : List Int) (o : Option (List Vt)) (e : Ending) (w' : World) : Prop :=
  match o with
  | none => CP w 8 0 z32 [] e w'
  | some r => CP w 0 ht h r e w'
def MidJ (w : World) (ht : Int) (h : List Int) (c1 c2 : List Value) (vs us : List Vt) (X Y Z O n m : Nat) (i : Value) (U : World) : Prop :=
  ∃ (k : Nat) (acc : List Vt) (oa : Option Addr) (on oc : Nat), k ≤ m ∧ i = .int .i64 (k : Int) ∧ acc.length ≤ n + k ∧ dj vs vs us = dj vs acc (us.drop k) ∧ Bag w U [ownt (.slice oa on oc) acc, box TC O (ccl ht h (.slice oa on oc)), box TC Z zcm, box TC Y c2, box TC X c1]
set_option maxRecDepth 20000 in
set_option maxHeartbeats 16000000 in
theorem rjoin_loop (w : World) (ht : Int) (h : List Int) (a b : Option Addr) (n c m d : Nat) (vs us : List Vt) (hl : h.length = 32) (hv : VtIn w a n c vs) (hw : VtIn w b m d us) (hn : n ≤ 70) (hm : m ≤ 70) (hc : chk ht vs = 0) (hc2 : chk ht us = 0) (r : Option (List Vt)) (hdj : dj vs vs us = r) : Calls Try.prog 82 #[.agg (ccl ht h (.slice a n c)).toArray, .agg (ccl ht h (.slice b m d)).toArray] w (JQ w ht h r) := by
  have HL := WirS.hide hl
  have HK := WirS.hide hl
  have HC1 := WirS.hide (fun U (hU : Below w.heap.size w U) => rcheck_any U ht h a n c vs hl (hv.below hU))
  have HC2 := WirS.hide (fun U (hU : Below w.heap.size w U) => rcheck_any U ht h b m d us hl (hw.below hU))
  have HNE := WirS.hide (fun W => show (binOp .neq 34 (.agg (b8 h).toArray) (.agg (b8 h).toArray)).run Try.prog W = .ok (.bool false) W from by rw [neHg h h hl hl W]; simp)
  rw [hc] at HC1
  rw [hc2] at HC2
  have HCP := WirS.hide (fun U (hU : Below w.heap.size w U) => copy_any U ht h a n c vs hl (hv.below hU) (by omega))
  have HOF := WirS.hide (fun U at0 (hU : Below w.heap.size w U) => rof_any U ht h a n c vs at0 hl (hv.below hU))
  have HV := WirS.hide hv
  have HW := WirS.hide hw
  have HN := WirS.hide hn
  have HM := WirS.hide hm
  have HO := WirS.hide hdj
  have HLV := WirS.hide hv.len
  clear hl hv hw hc hc2 hn hm hdj
  go_enter Try.func82, Try.ntmps82
  go_upto_region 0 with fail
  refine wp_region_lit ?_
  refine sV (.pointer (some ⟨w.heap.size, 0, none⟩)) (w.alloc (.cells (ccl ht h (.slice a n c)).toArray TC)) (by kernel_rfl) (by kernel_rfl) ?_
  simp only [Act.put, List.setIfInBounds_toArray, List.set_cons_succ, List.set_cons_zero]
  have hbX := bag_box (w0 := w) (T := TC) (cs := (ccl ht h (.slice a n c))) (X := w.heap.size) (Bag.nil (Below.refl _ _)) rfl (w' := w.alloc (.cells (ccl ht h (.slice a n c)).toArray TC)) (At.new _ _ _) (Below.alloc (Below.refl _ _) (Nat.le_refl _) _)
  obtain ⟨X, eX⟩ : ∃ A, w.heap.size = A := ⟨_, rfl⟩
  rw [eX] at hbX ⊢
  clear eX
  generalize World.alloc w _ = x0 at *
  refine sV (.pointer (some ⟨x0.heap.size, 0, none⟩)) (x0.alloc (.cells (ccl ht h (.slice b m d)).toArray TC)) (by kernel_rfl) (by kernel_rfl) ?_
  simp only [Act.put, List.setIfInBounds_toArray, List.set_cons_succ, List.set_cons_zero]
  obtain ⟨Y, eY⟩ : ∃ A, x0.heap.size = A := ⟨_, rfl⟩
  have hbY := bag_box (T := TC) (cs := (ccl ht h (.slice b m d))) (X := Y) hbX eY.symm (w' := x0.alloc (.cells (ccl ht h (.slice b m d)).toArray TC)) (by rw [← eY]; exact At.new _ _ _) (Below.alloc (Below.refl _ _) (Nat.le_refl _) _)
  rw [eY]
  clear eY
  generalize World.alloc x0 _ = x1 at *
  refine sV (.pointer (some ⟨x1.heap.size, 0, none⟩)) (x1.alloc (.cells zcm.toArray TC)) (by kernel_rfl) (by kernel_rfl) ?_
  simp only [Act.put, List.setIfInBounds_toArray, List.set_cons_succ, List.set_cons_zero]
  obtain ⟨Z, eZ⟩ : ∃ A, x1.heap.size = A := ⟨_, rfl⟩
  have hbZ := bag_box (T := TC) (cs := zcm) (X := Z) hbY eZ.symm (w' := x1.alloc (.cells zcm.toArray TC)) (by rw [← eZ]; exact At.new _ _ _) (Below.alloc (Below.refl _ _) (Nat.le_refl _) _)
  rw [eZ]
  clear eZ
  generalize World.alloc x1 _ = x2 at *
  have H2 := WirS.hide hbZ
  clear hbZ hbY hbX
  have HSH := WirS.hide (fun (U : World) (hX : At U X TC (ccl ht h (.slice a n c))) (hY : At U Y TC (ccl ht h (.slice b m d))) => (show U.rangeAt X 0 (ccl ht h (.slice a n c)) ∧ U.rangeAt Y 0 (ccl ht h (.slice b m d)) from ⟨range_from hX (fun j u hj => by rw [Nat.zero_add]; exact hj), range_from hY (fun j u hj => by rw [Nat.zero_add]; exact hj)⟩))
  go_upto_region 1 with fail
  have HZ : Hid (Bag w x2.drew [box TC Z zcm, box TC Y (ccl ht h (.slice b m d)), box TC X (ccl ht h (.slice a n c))]) := WirS.hide (H2.out.more (below_drewN (Below.refl _ _) 1))
  clear H2
  refine wp_region_noPanic ?_
  refine wp_region_held_drew (S := (fun U => U.rangeAt X 0 (ccl ht h (.slice a n c)) ∧ U.rangeAt Y 0 (ccl ht h (.slice b m d)))) (by kernel_rfl) (HSH.out _ (HZ.out.all (box TC X (ccl ht h (.slice a n c))) (by simp)).1 (HZ.out.all (box TC Y (ccl ht h (.slice b m d))) (by simp)).1) (fun hHeld => ?_)
  generalize World.drew x2 = z0 at *
  refine' wpAnyH_take (i := 0) (oi := _) (v := .agg ((ccl ht h (.slice a n c))).toArray) rfl (by kernel_rfl) (by kernel_rfl) (by kernel_rfl) (fun _ _ _ h => h) (yieldsIf_load_mid (by kernel_rfl) TC (.tmp 2) (by kernel_rfl) X 0 (by kernel_rfl) ((ccl ht h (.slice a n c))) _ (fun _ h => h.1) UC (by kernel_rfl) ((by rw [ccl_len _ _ _ HL.out]; kernel_rfl))) (by assumption) ?rest0
  case rest0 =>
  try simp only [List.getElem_toArray, List.getElem_cons_zero, Act.put, List.setIfInBounds_toArray, List.set_cons_zero, List.set_cons_succ]
  refine' wpAnyH_take (i := 2) (oi := _) (v := .agg ((ccl ht h (.slice b m d))).toArray) rfl (by kernel_rfl) (by kernel_rfl) (by kernel_rfl) (fun _ _ _ h => h) (yieldsIf_load_mid (by kernel_rfl) TC (.tmp 3) (by kernel_rfl) Y 0 (by kernel_rfl) ((ccl ht h (.slice b m d))) _ (fun _ h => h.2) UC (by kernel_rfl) ((by rw [ccl_len _ _ _ HK.out]; kernel_rfl))) (by assumption) ?rest2
  case rest2 =>
  try simp only [List.getElem_toArray, List.getElem_cons_succ, List.getElem_cons_zero, Act.put, List.setIfInBounds_toArray, List.set_cons_zero, List.set_cons_succ]
  refine wpAnyH_ready (rs := [1]) (by kernel_rfl) (by simp) ?_
  refine AllReadyH.cons rfl (fun K hK => ?_) AllReadyH.nil
  rw [if_pos (by kernel_rfl)]
  refine stepCallH (v := .int .i64 0) (R := fun w' => Below z0.heap.size z0 w') (by kernel_rfl) (HC1.out z0 HZ.out.low) ?_
  rintro u1 hb
  try simp only [List.getElem_toArray, List.getElem_cons_succ, List.getElem_cons_zero, Act.put, List.setIfInBounds_toArray, List.set_cons_zero, List.set_cons_succ]
  have HY1 := WirS.hide (HZ.out.more hb)
  clear hb HZ
  refine hK.out _ _ (HSH.out _ (HY1.out.all (box TC X (ccl ht h (.slice a n c))) (by simp)).1 (HY1.out.all (box TC Y (ccl ht h (.slice b m d))) (by simp)).1) (fun hHeld => ?_)
  clear hK K
  refine wpAnyH_ready (rs := [3]) (by kernel_rfl) (by simp) ?_
  refine AllReadyH.cons rfl (fun K hK => ?_) AllReadyH.nil
  rw [if_pos (by kernel_rfl)]
  refine stepCallH (v := .int .i64 0) (R := fun w' => Below u1.heap.size u1 w') (by kernel_rfl) (HC2.out u1 HY1.out.low) ?_
  rintro x5 hb
  try simp only [List.getElem_toArray, List.getElem_cons_succ, List.getElem_cons_zero, Act.put, List.setIfInBounds_toArray, List.set_cons_zero, List.set_cons_succ]
  have H5 := WirS.hide (HY1.out.more hb)
  clear hb HY1
  refine hK.out _ _ (HSH.out _ (H5.out.all (box TC X (ccl ht h (.slice a n c))) (by simp)).1 (H5.out.all (box TC Y (ccl ht h (.slice b m d))) (by simp)).1) (fun hHeld => ?_)
  clear hK K
  refine' wpAnyH_take (i := 4) (oi := _) (v := .int .i64 0) rfl (by kernel_rfl) (by kernel_rfl) (by kernel_rfl) (fun _ _ _ h => h) (Or.inl ⟨by kernel_rfl, ?hy4⟩) (by assumption) ?rest4
  case hy4 =>
    intro W _
    kernel_rfl
  case rest4 =>
  try simp only [List.getElem_toArray, List.getElem_cons_succ, List.getElem_cons_zero, Act.put, List.setIfInBounds_toArray, List.set_cons_zero, List.set_cons_succ]
  refine' wpAnyH_take (i := 5) (oi := _) (v := .int .i64 0) rfl (by kernel_rfl) (by kernel_rfl) (by kernel_rfl) (fun _ _ _ h => h) (Or.inl ⟨by kernel_rfl, ?hy5⟩) (by assumption) ?rest5
  case hy5 =>
    intro W _
    kernel_rfl
  case rest5 =>
  try simp only [List.getElem_toArray, List.getElem_cons_succ, List.getElem_cons_zero, Act.put, List.setIfInBounds_toArray, List.set_cons_zero, List.set_cons_succ]
  refine wpAnyH_done (by kernel_rfl) ?_ _
  refine NoPanic.normal ?_
  clear hHeld
  go_upto_region 6 with fail
  refine wp_region_lit ?_
  refine sV (.pointer (some ⟨X, 0, none⟩)) (x5) (by kernel_rfl) (by kernel_rfl) ?_
  simp only [Act.put, List.setIfInBounds_toArray, List.set_cons_succ, List.set_cons_zero]
  refine sP (by kernel_rfl) _ _ (by rfl) ⟨X, 0, none⟩ (by kernel_rfl) (.int .i64 ht) (H5.out.drop.drop.head.cell 0) (by kernel_rfl) ?_
  simp only [Act.put, List.setIfInBounds_toArray, List.set_cons_succ, List.set_cons_zero]
  refine sV (.pointer (some ⟨Y, 0, none⟩)) (x5) (by kernel_rfl) (by kernel_rfl) ?_
  simp only [Act.put, List.setIfInBounds_toArray, List.set_cons_succ, List.set_cons_zero]
  refine sP (by kernel_rfl) _ _ (by rfl) ⟨Y, 0, none⟩ (by kernel_rfl) (.int .i64 ht) (H5.out.drop.head.cell 0) (by kernel_rfl) ?_
  simp only [Act.put, List.setIfInBounds_toArray, List.set_cons_succ, List.set_cons_zero]
  refine sB (by kernel_rfl) .neq _ _ _ _ (by rfl) (.int .i64 ht) (.int .i64 ht) (by kernel_rfl) (by kernel_rfl) (.bool false) (neI0 ht x5) (by kernel_rfl) ?_
  simp only [Act.put, List.setIfInBounds_toArray, List.set_cons_succ, List.set_cons_zero]
  refine sV (.bool false) (x5) (by kernel_rfl) (by kernel_rfl) ?_
  simp only [Act.put, List.setIfInBounds_toArray, List.set_cons_succ, List.set_cons_zero]
  refine sV (.pointer (some ⟨X, 1, none⟩)) (x5) (by kernel_rfl) (by kernel_rfl) ?_
  simp only [Act.put, List.setIfInBounds_toArray, List.set_cons_succ, List.set_cons_zero]
  refine wpList_load_mid' (by kernel_rfl) _ _ (by rfl) X 1 (by kernel_rfl) (b8 h) _ (range_hash H5.out.drop.drop.head) Try.underlying34 (by rfl) (by rw [b8_len, HL.out]; kernel_rfl) ?_
  simp only [Act.put, List.setIfInBounds_toArray, List.set_cons_succ, List.set_cons_zero]
  refine sV (.pointer (some ⟨Y, 1, none⟩)) (x5) (by kernel_rfl) (by kernel_rfl) ?_
  simp only [Act.put, List.setIfInBounds_toArray, List.set_cons_succ, List.set_cons_zero]
  refine wpList_load_mid' (by kernel_rfl) _ _ (by rfl) Y 1 (by kernel_rfl) (b8 h) _ (range_hash H5.out.drop.head) Try.underlying34 (by rfl) (by rw [b8_len, HK.out]; kernel_rfl) ?_
  simp only [Act.put, List.setIfInBounds_toArray, List.set_cons_succ, List.set_cons_zero]
  refine sB (by kernel_rfl) .neq _ _ _ _ (by rfl) (.agg (b8 h).toArray) (.agg (b8 h).toArray) (by kernel_rfl) (by kernel_rfl) (.bool false) (HNE.out x5) (by kernel_rfl) ?_
  simp only [Act.put, List.setIfInBounds_toArray, List.set_cons_succ, List.set_cons_zero]
  refine sV (.bool false) (x5) (by kernel_rfl) (by kernel_rfl) ?_
  simp only [Act.put, List.setIfInBounds_toArray, List.set_cons_succ, List.set_cons_zero]
  go_upto_region 8 with fail
  refine wp_region_lit ?_
  refine sL (by kernel_rfl) _ _ (by rfl) _ (by kernel_rfl) H5.out.drop.drop.head _ _ UC rfl (by kernel_rfl) (by rw [ccl_len _ _ _ HL.out]) ?_
  simp only [Act.put, List.setIfInBounds_toArray, List.set_cons_succ, List.set_cons_zero]
  refine sCx (by kernel_rfl) (by kernel_rfl) (HCP.out x5 H5.out.low) ?_
  rintro e x6 ⟨ca, cc, rfl, ho, hnb, hb⟩
  refine ⟨_, rfl, ?_⟩
  simp only [Act.put, List.setIfInBounds_toArray, List.set_cons_succ, List.set_cons_zero]
  have hb6 := bag_ownt H5.out ho hnb hb
  clear ho hnb hb H5
  refine sV (.pointer (some ⟨x6.heap.size, 0, none⟩)) (x6.alloc (.cells zcm.toArray TC)) (by kernel_rfl) (by kernel_rfl) ?_
  simp only [Act.put, List.setIfInBounds_toArray, List.set_cons_succ, List.set_cons_zero]
  obtain ⟨O, eO⟩ : ∃ A, x6.heap.size = A := ⟨_, rfl⟩
  have hbO := bag_box (T := TC) (cs := zcm) (X := O) hb6 eO.symm (w' := x6.alloc (.cells zcm.toArray TC)) (by rw [← eO]; exact At.new _ _ _) (Below.alloc (Below.refl _ _) (Nat.le_refl _) _)
  rw [eO]
  clear eO
  generalize World.alloc x6 _ = x7 at *
  refine stepStore (by rfl) _ _ _ (by rfl) O (ccl ht h (.slice ca n cc)) (by kernel_rfl) (by kernel_rfl) hbO.head 34 (by kernel_rfl) (by rfl) (ccl_len _ _ _ HL.out) (one_ccl _ _ _ _ _) ?_
  simp only [Act.put]
  have hb8 := bag_row hbO (ccl ht h (.slice ca n cc))
  clear hbO hb6
  generalize World.setRow x7 O _ = y7 at *
  have HST := WirS.hide (show MidJ w ht h (ccl ht h (.slice a n c)) (ccl ht h (.slice b m d)) vs us X Y Z O n m (.int .i64 0) y7 from ⟨0, vs, ca, n, cc, Nat.zero_le _, rfl, by rw [HLV.out]; exact Nat.le_refl _, rfl, hb8.swap⟩)
  clear hb8
  go_wp2_with fail
  go_loopw [9] (fun i wr => MidJ w ht h (ccl ht h (.slice a n c)) (ccl ht h (.slice b m d)) vs us X Y Z O n m i wr) (fun i _ => m - (intOf i).toNat)
  case atStart => exact HST.out
  case round =>
    clear HST
    obtain ⟨k, acc, oa, on, oc, hk, rfl, hal, hE, hbag⟩ := hrel
    have HB := WirS.hide hbag
    have HAL := WirS.hide hal
    clear hbag hal
    have k33 : wr.cell? ⟨Y, 33, none⟩ = some (.slice b m d) := ((show At _ Y TC (ccl ht h (.slice b m d)) from HB.out.drop.drop.drop.head).cell 33).trans (ccl_33 _ _ _ HL.out)
    by_cases hlt : k < m
    · obtain ⟨x, B, o, hx, hmem, rfl, hBl, hr⟩ := HW.out.cell hlt
      have HR := WirS.hide (fun (U : World) (hU : Below w.heap.size w U) => show U.rangeAt B (o + k * 2) x.cells from fun j v hj => (hU.cell (p := ⟨B, _, none⟩) hBl).trans (hr j v hj))
      have HXO := WirS.hide (HW.out.ok x hmem)
      have hkl : (k : Int) < (m : Int) := by omega
      have hk63 : k ≤ 1000 := by have := HM.out; omega
      rw [drop_get hx, dj] at hE
      obtain ⟨os, hos⟩ : ∃ s, ofS x.at' vs = s := ⟨_, rfl⟩
      have HOX := WirS.hide (fun U hU => HOF.out U x.at' hU)
      rw [hos] at HOX
      unfold ofS at hos
      clear hx hmem hBl hr
      have HSH := WirS.hide (fun (U : World) (hU : Below w.heap.size w U) (hX : At U X TC (ccl ht h (.slice a n c))) (hY : At U Y TC (ccl ht h (.slice (some ⟨B, o, none⟩) m d))) => (show U.rangeAt X 0 (ccl ht h (.slice a n c)) ∧ U.cell? ⟨Y, 33, none⟩ = some (.slice (some ⟨B, o, none⟩) m d) ∧ U.cell? ⟨B, o + k * 2, none⟩ = some (.int .i64 x.at') from ⟨range_from hX (fun j u hj => by rw [Nat.zero_add]; exact hj), (hY.cell 33).trans (ccl_33 _ _ _ HL.out), HR.out U hU 0 _ rfl⟩))
      cases hof : ofV x.at' vs with
      | some s =>
        rw [hof] at hE hos HOX
        obtain rfl : s = os := by simpa using hos
        simp only at hE
        by_cases q : s = x.sg
        · rw [if_pos q] at hE
          have d1 : (s != x.sg) = false := by simpa using q
          have HE := WirS.hide hE
          clear hE q hos
          go_upto_region 12 with fail
          have HZ : Hid (Bag w wr.drew [ownt (.slice oa on oc) acc, box TC O (ccl ht h (.slice oa on oc)), box TC Z zcm, box TC Y (ccl ht h (.slice (some ⟨B, o, none⟩) m d)), box TC X (ccl ht h (.slice a n c))]) := WirS.hide (HB.out.more (below_drewN (Below.refl _ _) 1))
          clear HB k33
          refine wp_region_noPanic ?_
          refine wp_region_held_drew (S := (fun U => U.rangeAt X 0 (ccl ht h (.slice a n c)) ∧ U.cell? ⟨Y, 33, none⟩ = some (.slice (some ⟨B, o, none⟩) m d) ∧ U.cell? ⟨B, o + k * 2, none⟩ = some (.int .i64 x.at'))) (by kernel_rfl) (HSH.out _ HZ.out.low HZ.out.drop.drop.drop.drop.head HZ.out.drop.drop.drop.head) (fun hHeld => ?_)
          generalize World.drew wr = z0 at *
          refine' wpAnyH_take (i := 0) (oi := _) (v := .agg ((ccl ht h (.slice a n c))).toArray) rfl (by kernel_rfl) (by kernel_rfl) (by kernel_rfl) (fun _ _ _ h => h) (yieldsIf_load_mid (by kernel_rfl) TC (.tmp 2) (by kernel_rfl) X 0 (by kernel_rfl) ((ccl ht h (.slice a n c))) _ (fun _ h => h.1) UC (by kernel_rfl) ((by rw [ccl_len _ _ _ HL.out]; kernel_rfl))) (by assumption) ?rest0
          case rest0 =>
          try simp only [List.getElem_toArray, List.getElem_cons_zero, Act.put, List.setIfInBounds_toArray, List.set_cons_zero, List.set_cons_succ]
          refine' wpAnyH_take (i := 1) (oi := _) (v := .pointer (some ⟨Y, 33, none⟩)) rfl (by kernel_rfl) (by kernel_rfl) (by kernel_rfl) (fun _ _ _ h => h) (Or.inl ⟨by kernel_rfl, ?hy1⟩) (by assumption) ?rest1
          case hy1 =>
            intro W _
            kernel_rfl
          case rest1 =>
          try simp only [List.getElem_toArray, List.getElem_cons_succ, List.getElem_cons_zero, Act.put, List.setIfInBounds_toArray, List.set_cons_zero, List.set_cons_succ]
          refine' wpAnyH_take (i := 2) (oi := _) (v := _) rfl (by kernel_rfl) (by kernel_rfl) (by kernel_rfl) (fun _ _ _ h => h) (Or.inl ⟨by kernel_rfl, ?hy2⟩) (by assumption) ?rest2
          case hy2 =>
            intro w hSw
            try dsimp only at hSw
            go_simp
            try with_reducible rfl
          case rest2 =>
          try simp only [List.getElem_toArray, List.getElem_cons_succ, List.getElem_cons_zero, Act.put, List.setIfInBounds_toArray, List.set_cons_zero, List.set_cons_succ]
          refine' wpAnyH_take (i := 3) (oi := _) (v := .int .i64 (k : Int)) rfl (by kernel_rfl) (by kernel_rfl) (by kernel_rfl) (fun _ _ _ h => h) (Or.inl ⟨by kernel_rfl, ?hy3⟩) (by assumption) ?rest3
          case hy3 =>
            intro W _
            kernel_rfl
          case rest3 =>
          try simp only [List.getElem_toArray, List.getElem_cons_succ, List.getElem_cons_zero, Act.put, List.setIfInBounds_toArray, List.set_cons_zero, List.set_cons_succ]
          refine' wpAnyH_take (i := 4) (oi := _) (v := .pointer (some ⟨B, o + k * 2, none⟩)) rfl (by kernel_rfl) (by kernel_rfl) (by kernel_rfl) (fun _ _ _ h => h) (Or.inl ⟨by kernel_rfl, ?hy4⟩) (by assumption) ?rest4
          case hy4 =>
            intro W _
            exact (fun W => opX _ _ _ _ B o m d k rfl (by kernel_rfl) (by kernel_rfl) hlt W) W
          case rest4 =>
          try simp only [List.getElem_toArray, List.getElem_cons_succ, List.getElem_cons_zero, Act.put, List.setIfInBounds_toArray, List.set_cons_zero, List.set_cons_succ]
          refine' wpAnyH_take (i := 5) (oi := _) (v := .pointer (some ⟨B, o + k * 2, none⟩)) rfl (by kernel_rfl) (by kernel_rfl) (by kernel_rfl) (fun _ _ _ h => h) (Or.inl ⟨by kernel_rfl, ?hy5⟩) (by assumption) ?rest5
          case hy5 =>
            intro W _
            kernel_rfl
          case rest5 =>
          try simp only [List.getElem_toArray, List.getElem_cons_succ, List.getElem_cons_zero, Act.put, List.setIfInBounds_toArray, List.set_cons_zero, List.set_cons_succ]
          refine' wpAnyH_take (i := 6) (oi := _) (v := _) rfl (by kernel_rfl) (by kernel_rfl) (by kernel_rfl) (fun _ _ _ h => h) (Or.inl ⟨by kernel_rfl, ?hy6⟩) (by assumption) ?rest6
          case hy6 =>
            intro w hSw
            try dsimp only at hSw
            go_simp
            try with_reducible rfl
          case rest6 =>
          try simp only [List.getElem_toArray, List.getElem_cons_succ, List.getElem_cons_zero, Act.put, List.setIfInBounds_toArray, List.set_cons_zero, List.set_cons_succ]
          refine wpAnyH_ready (rs := [7]) (by kernel_rfl) (by simp) ?_
          refine AllReadyH.cons rfl (fun K hK => ?_) AllReadyH.nil
          rw [if_pos (by kernel_rfl)]
          refine stepCallH (v := .tuple #[.int .u64 s, .bool true]) (R := fun w' => Below z0.heap.size z0 w') (by kernel_rfl) (HOX.out z0 HZ.out.low) ?_
          rintro u1 hb
          try simp only [List.getElem_toArray, List.getElem_cons_succ, List.getElem_cons_zero, Act.put, List.setIfInBounds_toArray, List.set_cons_zero, List.set_cons_succ]
          have HB := WirS.hide (HZ.out.more hb)
          clear hb HZ
          refine hK.out _ _ (HSH.out _ HB.out.low HB.out.drop.drop.drop.drop.head HB.out.drop.drop.drop.head) (fun hHeld => ?_)
          clear hK K
          refine' wpAnyH_take (i := 8) (oi := _) (v := .tuple #[.int .u64 s, .bool true]) rfl (by kernel_rfl) (by kernel_rfl) (by kernel_rfl) (fun _ _ _ h => h) (Or.inl ⟨by kernel_rfl, ?hy8⟩) (by assumption) ?rest8
          case hy8 =>
            intro W _
            kernel_rfl
          case rest8 =>
          try simp only [List.getElem_toArray, List.getElem_cons_succ, List.getElem_cons_zero, Act.put, List.setIfInBounds_toArray, List.set_cons_zero, List.set_cons_succ]
          refine' wpAnyH_take (i := 9) (oi := _) (v := .int .u64 s) rfl (by kernel_rfl) (by kernel_rfl) (by kernel_rfl) (fun _ _ _ h => h) (Or.inl ⟨by kernel_rfl, ?hy9⟩) (by assumption) ?rest9
          case hy9 =>
            intro W _
            kernel_rfl
          case rest9 =>
          try simp only [List.getElem_toArray, List.getElem_cons_succ, List.getElem_cons_zero, Act.put, List.setIfInBounds_toArray, List.set_cons_zero, List.set_cons_succ]
          refine' wpAnyH_take (i := 10) (oi := _) (v := .bool true) rfl (by kernel_rfl) (by kernel_rfl) (by kernel_rfl) (fun _ _ _ h => h) (Or.inl ⟨by kernel_rfl, ?hy10⟩) (by assumption) ?rest10
          case hy10 =>
            intro W _
            kernel_rfl
          case rest10 =>
          try simp only [List.getElem_toArray, List.getElem_cons_succ, List.getElem_cons_zero, Act.put, List.setIfInBounds_toArray, List.set_cons_zero, List.set_cons_succ]
          refine' wpAnyH_take (i := 11) (oi := _) (v := .int .u64 s) rfl (by kernel_rfl) (by kernel_rfl) (by kernel_rfl) (fun _ _ _ h => h) (Or.inl ⟨by kernel_rfl, ?hy11⟩) (by assumption) ?rest11
          case hy11 =>
            intro W _
            kernel_rfl
          case rest11 =>
          try simp only [List.getElem_toArray, List.getElem_cons_succ, List.getElem_cons_zero, Act.put, List.setIfInBounds_toArray, List.set_cons_zero, List.set_cons_succ]
          refine' wpAnyH_take (i := 12) (oi := _) (v := .bool true) rfl (by kernel_rfl) (by kernel_rfl) (by kernel_rfl) (fun _ _ _ h => h) (Or.inl ⟨by kernel_rfl, ?hy12⟩) (by assumption) ?rest12
          case hy12 =>
            intro W _
            kernel_rfl
          case rest12 =>
          try simp only [List.getElem_toArray, List.getElem_cons_succ, List.getElem_cons_zero, Act.put, List.setIfInBounds_toArray, List.set_cons_zero, List.set_cons_succ]
          refine wpAnyH_done (by kernel_rfl) ?_ _
          refine NoPanic.normal ?_
          clear hHeld
          have k33 : u1.cell? ⟨Y, 33, none⟩ = some (.slice (some ⟨B, o, none⟩) m d) := ((show At _ Y TC (ccl ht h (.slice (some ⟨B, o, none⟩) m d)) from HB.out.drop.drop.drop.head).cell 33).trans (ccl_33 _ _ _ HL.out)
          have r1 : u1.cell? ⟨B, o + k * 2 + 1, none⟩ = some (.int .u64 x.sg) := HR.out u1 HB.out.low 1 _ rfl
          go_wp2_with fail
          go_roundw
          case rel => exact ⟨k + 1, acc, oa, on, oc, by omega, by go_num, by have := HAL.out; omega, HE.out, HB.out⟩
          case measure => simp [intOf]; omega
        · rw [if_neg q] at hE
          have d1 : (s != x.sg) = true := by simpa using q
          have HE := WirS.hide hE
          clear hE q hos
          go_upto_region 12 with fail
          have HZ : Hid (Bag w wr.drew [ownt (.slice oa on oc) acc, box TC O (ccl ht h (.slice oa on oc)), box TC Z zcm, box TC Y (ccl ht h (.slice (some ⟨B, o, none⟩) m d)), box TC X (ccl ht h (.slice a n c))]) := WirS.hide (HB.out.more (below_drewN (Below.refl _ _) 1))
          clear HB k33
          refine wp_region_noPanic ?_
          refine wp_region_held_drew (S := (fun U => U.rangeAt X 0 (ccl ht h (.slice a n c)) ∧ U.cell? ⟨Y, 33, none⟩ = some (.slice (some ⟨B, o, none⟩) m d) ∧ U.cell? ⟨B, o + k * 2, none⟩ = some (.int .i64 x.at'))) (by kernel_rfl) (HSH.out _ HZ.out.low HZ.out.drop.drop.drop.drop.head HZ.out.drop.drop.drop.head) (fun hHeld => ?_)
          generalize World.drew wr = z0 at *
          refine' wpAnyH_take (i := 0) (oi := _) (v := .agg ((ccl ht h (.slice a n c))).toArray) rfl (by kernel_rfl) (by kernel_rfl) (by kernel_rfl) (fun _ _ _ h => h) (yieldsIf_load_mid (by kernel_rfl) TC (.tmp 2) (by kernel_rfl) X 0 (by kernel_rfl) ((ccl ht h (.slice a n c))) _ (fun _ h => h.1) UC (by kernel_rfl) ((by rw [ccl_len _ _ _ HL.out]; kernel_rfl))) (by assumption) ?rest0
          case rest0 =>
          try simp only [List.getElem_toArray, List.getElem_cons_zero, Act.put, List.setIfInBounds_toArray, List.set_cons_zero, List.set_cons_succ]
          refine' wpAnyH_take (i := 1) (oi := _) (v := .pointer (some ⟨Y, 33, none⟩)) rfl (by kernel_rfl) (by kernel_rfl) (by kernel_rfl) (fun _ _ _ h => h) (Or.inl ⟨by kernel_rfl, ?hy1⟩) (by assumption) ?rest1
          case hy1 =>
            intro W _
            kernel_rfl
          case rest1 =>
          try simp only [List.getElem_toArray, List.getElem_cons_succ, List.getElem_cons_zero, Act.put, List.setIfInBounds_toArray, List.set_cons_zero, List.set_cons_succ]
          refine' wpAnyH_take (i := 2) (oi := _) (v := _) rfl (by kernel_rfl) (by kernel_rfl) (by kernel_rfl) (fun _ _ _ h => h) (Or.inl ⟨by kernel_rfl, ?hy2⟩) (by assumption) ?rest2
          case hy2 =>
            intro w hSw
            try dsimp only at hSw
            go_simp
            try with_reducible rfl
          case rest2 =>
          try simp only [List.getElem_toArray, List.getElem_cons_succ, List.getElem_cons_zero, Act.put, List.setIfInBounds_toArray, List.set_cons_zero, List.set_cons_succ]
          refine' wpAnyH_take (i := 3) (oi := _) (v := .int .i64 (k : Int)) rfl (by kernel_rfl) (by kernel_rfl) (by kernel_rfl) (fun _ _ _ h => h) (Or.inl ⟨by kernel_rfl, ?hy3⟩) (by assumption) ?rest3
          case hy3 =>
            intro W _
            kernel_rfl
          case rest3 =>
          try simp only [List.getElem_toArray, List.getElem_cons_succ, List.getElem_cons_zero, Act.put, List.setIfInBounds_toArray, List.set_cons_zero, List.set_cons_succ]
          refine' wpAnyH_take (i := 4) (oi := _) (v := .pointer (some ⟨B, o + k * 2, none⟩)) rfl (by kernel_rfl) (by kernel_rfl) (by kernel_rfl) (fun _ _ _ h => h) (Or.inl ⟨by kernel_rfl, ?hy4⟩) (by assumption) ?rest4
          case hy4 =>
            intro W _
            exact (fun W => opX _ _ _ _ B o m d k rfl (by kernel_rfl) (by kernel_rfl) hlt W) W
          case rest4 =>
          try simp only [List.getElem_toArray, List.getElem_cons_succ, List.getElem_cons_zero, Act.put, List.setIfInBounds_toArray, List.set_cons_zero, List.set_cons_succ]
          refine' wpAnyH_take (i := 5) (oi := _) (v := .pointer (some ⟨B, o + k * 2, none⟩)) rfl (by kernel_rfl) (by kernel_rfl) (by kernel_rfl) (fun _ _ _ h => h) (Or.inl ⟨by kernel_rfl, ?hy5⟩) (by assumption) ?rest5
          case hy5 =>
            intro W _
            kernel_rfl
          case rest5 =>
          try simp only [List.getElem_toArray, List.getElem_cons_succ, List.getElem_cons_zero, Act.put, List.setIfInBounds_toArray, List.set_cons_zero, List.set_cons_succ]
          refine' wpAnyH_take (i := 6) (oi := _) (v := _) rfl (by kernel_rfl) (by kernel_rfl) (by kernel_rfl) (fun _ _ _ h => h) (Or.inl ⟨by kernel_rfl, ?hy6⟩) (by assumption) ?rest6
          case hy6 =>
            intro w hSw
            try dsimp only at hSw
            go_simp
            try with_reducible rfl
          case rest6 =>
          try simp only [List.getElem_toArray, List.getElem_cons_succ, List.getElem_cons_zero, Act.put, List.setIfInBounds_toArray, List.set_cons_zero, List.set_cons_succ]
          refine wpAnyH_ready (rs := [7]) (by kernel_rfl) (by simp) ?_
          refine AllReadyH.cons rfl (fun K hK => ?_) AllReadyH.nil
          rw [if_pos (by kernel_rfl)]
          refine stepCallH (v := .tuple #[.int .u64 s, .bool true]) (R := fun w' => Below z0.heap.size z0 w') (by kernel_rfl) (HOX.out z0 HZ.out.low) ?_
          rintro u1 hb
          try simp only [List.getElem_toArray, List.getElem_cons_succ, List.getElem_cons_zero, Act.put, List.setIfInBounds_toArray, List.set_cons_zero, List.set_cons_succ]
          have HB := WirS.hide (HZ.out.more hb)
          clear hb HZ
          refine hK.out _ _ (HSH.out _ HB.out.low HB.out.drop.drop.drop.drop.head HB.out.drop.drop.drop.head) (fun hHeld => ?_)
          clear hK K
          refine' wpAnyH_take (i := 8) (oi := _) (v := .tuple #[.int .u64 s, .bool true]) rfl (by kernel_rfl) (by kernel_rfl) (by kernel_rfl) (fun _ _ _ h => h) (Or.inl ⟨by kernel_rfl, ?hy8⟩) (by assumption) ?rest8
          case hy8 =>
            intro W _
            kernel_rfl
          case rest8 =>
          try simp only [List.getElem_toArray, List.getElem_cons_succ, List.getElem_cons_zero, Act.put, List.setIfInBounds_toArray, List.set_cons_zero, List.set_cons_succ]
          refine' wpAnyH_take (i := 9) (oi := _) (v := .int .u64 s) rfl (by kernel_rfl) (by kernel_rfl) (by kernel_rfl) (fun _ _ _ h => h) (Or.inl ⟨by kernel_rfl, ?hy9⟩) (by assumption) ?rest9
          case hy9 =>
            intro W _
            kernel_rfl
          case rest9 =>
          try simp only [List.getElem_toArray, List.getElem_cons_succ, List.getElem_cons_zero, Act.put, List.setIfInBounds_toArray, List.set_cons_zero, List.set_cons_succ]
          refine' wpAnyH_take (i := 10) (oi := _) (v := .bool true) rfl (by kernel_rfl) (by kernel_rfl) (by kernel_rfl) (fun _ _ _ h => h) (Or.inl ⟨by kernel_rfl, ?hy10⟩) (by assumption) ?rest10
          case hy10 =>
            intro W _
            kernel_rfl
          case rest10 =>
          try simp only [List.getElem_toArray, List.getElem_cons_succ, List.getElem_cons_zero, Act.put, List.setIfInBounds_toArray, List.set_cons_zero, List.set_cons_succ]
          refine' wpAnyH_take (i := 11) (oi := _) (v := .int .u64 s) rfl (by kernel_rfl) (by kernel_rfl) (by kernel_rfl) (fun _ _ _ h => h) (Or.inl ⟨by kernel_rfl, ?hy11⟩) (by assumption) ?rest11
          case hy11 =>
            intro W _
            kernel_rfl
          case rest11 =>
          try simp only [List.getElem_toArray, List.getElem_cons_succ, List.getElem_cons_zero, Act.put, List.setIfInBounds_toArray, List.set_cons_zero, List.set_cons_succ]
          refine' wpAnyH_take (i := 12) (oi := _) (v := .bool true) rfl (by kernel_rfl) (by kernel_rfl) (by kernel_rfl) (fun _ _ _ h => h) (Or.inl ⟨by kernel_rfl, ?hy12⟩) (by assumption) ?rest12
          case hy12 =>
            intro W _
            kernel_rfl
          case rest12 =>
          try simp only [List.getElem_toArray, List.getElem_cons_succ, List.getElem_cons_zero, Act.put, List.setIfInBounds_toArray, List.set_cons_zero, List.set_cons_succ]
          refine wpAnyH_done (by kernel_rfl) ?_ _
          refine NoPanic.normal ?_
          clear hHeld
          have k33 : u1.cell? ⟨Y, 33, none⟩ = some (.slice (some ⟨B, o, none⟩) m d) := ((show At _ Y TC (ccl ht h (.slice (some ⟨B, o, none⟩) m d)) from HB.out.drop.drop.drop.head).cell 33).trans (ccl_33 _ _ _ HL.out)
          have r1 : u1.cell? ⟨B, o + k * 2 + 1, none⟩ = some (.int .u64 x.sg) := HR.out u1 HB.out.low 1 _ rfl
          go_upto_region 14 with fail
          refine wp_region_lit ?_
          refine sV (.agg zcm.toArray) (u1) (by kernel_rfl) (by kernel_rfl) ?_
          simp only [Act.put, List.setIfInBounds_toArray, List.set_cons_succ, List.set_cons_zero]
          have HS := WirS.hide HB.out.drop.drop
          clear HB
          refine stepStore (by rfl) _ _ _ (by rfl) Z zcm (by kernel_rfl) (by kernel_rfl) HS.out.head 34 (by kernel_rfl) (by rfl) (by rfl) (one_ccl _ _ _ _ _) ?_
          simp only [Act.put]
          have HF := WirS.hide (bag_row HS.out zcm)
          clear HS
          generalize World.setRow u1 Z _ = xf at *
          go_wp2_with fail
          refine bodyPost_ret (retRow2 HF.out.head Try.results82 _ (by rfl) (.int .i64 8) (by rfl) _ 34 UC rfl (by kernel_rfl) (by rfl)) rfl ?_
          rw [← HO.out, HE.out]
          exact cp_none rfl HF.out.low
      | none =>
        rw [hof] at hE hos HOX
        obtain rfl : os = 0 := by simpa using hos.symm
        simp only at hE
        have HE := WirS.hide hE
        clear hE hos
        go_upto_region 12 with fail
        have HZ : Hid (Bag w wr.drew [ownt (.slice oa on oc) acc, box TC O (ccl ht h (.slice oa on oc)), box TC Z zcm, box TC Y (ccl ht h (.slice (some ⟨B, o, none⟩) m d)), box TC X (ccl ht h (.slice a n c))]) := WirS.hide (HB.out.more (below_drewN (Below.refl _ _) 1))
        clear HB k33
        refine wp_region_noPanic ?_
        refine wp_region_held_drew (S := (fun U => U.rangeAt X 0 (ccl ht h (.slice a n c)) ∧ U.cell? ⟨Y, 33, none⟩ = some (.slice (some ⟨B, o, none⟩) m d) ∧ U.cell? ⟨B, o + k * 2, none⟩ = some (.int .i64 x.at'))) (by kernel_rfl) (HSH.out _ HZ.out.low HZ.out.drop.drop.drop.drop.head HZ.out.drop.drop.drop.head) (fun hHeld => ?_)
        generalize World.drew wr = z0 at *
        refine' wpAnyH_take (i := 0) (oi := _) (v := .agg ((ccl ht h (.slice a n c))).toArray) rfl (by kernel_rfl) (by kernel_rfl) (by kernel_rfl) (fun _ _ _ h => h) (yieldsIf_load_mid (by kernel_rfl) TC (.tmp 2) (by kernel_rfl) X 0 (by kernel_rfl) ((ccl ht h (.slice a n c))) _ (fun _ h => h.1) UC (by kernel_rfl) ((by rw [ccl_len _ _ _ HL.out]; kernel_rfl))) (by assumption) ?rest0
        case rest0 =>
        try simp only [List.getElem_toArray, List.getElem_cons_zero, Act.put, List.setIfInBounds_toArray, List.set_cons_zero, List.set_cons_succ]
        refine' wpAnyH_take (i := 1) (oi := _) (v := .pointer (some ⟨Y, 33, none⟩)) rfl (by kernel_rfl) (by kernel_rfl) (by kernel_rfl) (fun _ _ _ h => h) (Or.inl ⟨by kernel_rfl, ?hy1⟩) (by assumption) ?rest1
        case hy1 =>
          intro W _
          kernel_rfl
        case rest1 =>
        try simp only [List.getElem_toArray, List.getElem_cons_succ, List.getElem_cons_zero, Act.put, List.setIfInBounds_toArray, List.set_cons_zero, List.set_cons_succ]
        refine' wpAnyH_take (i := 2) (oi := _) (v := _) rfl (by kernel_rfl) (by kernel_rfl) (by kernel_rfl) (fun _ _ _ h => h) (Or.inl ⟨by kernel_rfl, ?hy2⟩) (by assumption) ?rest2
        case hy2 =>
          intro w hSw
          try dsimp only at hSw
          go_simp
          try with_reducible rfl
        case rest2 =>
        try simp only [List.getElem_toArray, List.getElem_cons_succ, List.getElem_cons_zero, Act.put, List.setIfInBounds_toArray, List.set_cons_zero, List.set_cons_succ]
        refine' wpAnyH_take (i := 3) (oi := _) (v := .int .i64 (k : Int)) rfl (by kernel_rfl) (by kernel_rfl) (by kernel_rfl) (fun _ _ _ h => h) (Or.inl ⟨by kernel_rfl, ?hy3⟩) (by assumption) ?rest3
        case hy3 =>
          intro W _
          kernel_rfl
        case rest3 =>
        try simp only [List.getElem_toArray, List.getElem_cons_succ, List.getElem_cons_zero, Act.put, List.setIfInBounds_toArray, List.set_cons_zero, List.set_cons_succ]
        refine' wpAnyH_take (i := 4) (oi := _) (v := .pointer (some ⟨B, o + k * 2, none⟩)) rfl (by kernel_rfl) (by kernel_rfl) (by kernel_rfl) (fun _ _ _ h => h) (Or.inl ⟨by kernel_rfl, ?hy4⟩) (by assumption) ?rest4
        case hy4 =>
          intro W _
          exact (fun W => opX _ _ _ _ B o m d k rfl (by kernel_rfl) (by kernel_rfl) hlt W) W
        case rest4 =>
        try simp only [List.getElem_toArray, List.getElem_cons_succ, List.getElem_cons_zero, Act.put, List.setIfInBounds_toArray, List.set_cons_zero, List.set_cons_succ]
        refine' wpAnyH_take (i := 5) (oi := _) (v := .pointer (some ⟨B, o + k * 2, none⟩)) rfl (by kernel_rfl) (by kernel_rfl) (by kernel_rfl) (fun _ _ _ h => h) (Or.inl ⟨by kernel_rfl, ?hy5⟩) (by assumption) ?rest5
        case hy5 =>
          intro W _
          kernel_rfl
        case rest5 =>
        try simp only [List.getElem_toArray, List.getElem_cons_succ, List.getElem_cons_zero, Act.put, List.setIfInBounds_toArray, List.set_cons_zero, List.set_cons_succ]
        refine' wpAnyH_take (i := 6) (oi := _) (v := _) rfl (by kernel_rfl) (by kernel_rfl) (by kernel_rfl) (fun _ _ _ h => h) (Or.inl ⟨by kernel_rfl, ?hy6⟩) (by assumption) ?rest6
        case hy6 =>
          intro w hSw
          try dsimp only at hSw
          go_simp
          try with_reducible rfl
        case rest6 =>
        try simp only [List.getElem_toArray, List.getElem_cons_succ, List.getElem_cons_zero, Act.put, List.setIfInBounds_toArray, List.set_cons_zero, List.set_cons_succ]
        refine wpAnyH_ready (rs := [7]) (by kernel_rfl) (by simp) ?_
        refine AllReadyH.cons rfl (fun K hK => ?_) AllReadyH.nil
        rw [if_pos (by kernel_rfl)]
        refine stepCallH (v := .tuple #[.int .u64 0, .bool false]) (R := fun w' => Below z0.heap.size z0 w') (by kernel_rfl) (HOX.out z0 HZ.out.low) ?_
        rintro u1 hb
        try simp only [List.getElem_toArray, List.getElem_cons_succ, List.getElem_cons_zero, Act.put, List.setIfInBounds_toArray, List.set_cons_zero, List.set_cons_succ]
        have HB := WirS.hide (HZ.out.more hb)
        clear hb HZ
        refine hK.out _ _ (HSH.out _ HB.out.low HB.out.drop.drop.drop.drop.head HB.out.drop.drop.drop.head) (fun hHeld => ?_)
        clear hK K
        refine' wpAnyH_take (i := 8) (oi := _) (v := .tuple #[.int .u64 0, .bool false]) rfl (by kernel_rfl) (by kernel_rfl) (by kernel_rfl) (fun _ _ _ h => h) (Or.inl ⟨by kernel_rfl, ?hy8⟩) (by assumption) ?rest8
        case hy8 =>
          intro W _
          kernel_rfl
        case rest8 =>
        try simp only [List.getElem_toArray, List.getElem_cons_succ, List.getElem_cons_zero, Act.put, List.setIfInBounds_toArray, List.set_cons_zero, List.set_cons_succ]
        refine' wpAnyH_take (i := 9) (oi := _) (v := .int .u64 0) rfl (by kernel_rfl) (by kernel_rfl) (by kernel_rfl) (fun _ _ _ h => h) (Or.inl ⟨by kernel_rfl, ?hy9⟩) (by assumption) ?rest9
        case hy9 =>
          intro W _
          kernel_rfl
        case rest9 =>
        try simp only [List.getElem_toArray, List.getElem_cons_succ, List.getElem_cons_zero, Act.put, List.setIfInBounds_toArray, List.set_cons_zero, List.set_cons_succ]
        refine' wpAnyH_take (i := 10) (oi := _) (v := .bool false) rfl (by kernel_rfl) (by kernel_rfl) (by kernel_rfl) (fun _ _ _ h => h) (Or.inl ⟨by kernel_rfl, ?hy10⟩) (by assumption) ?rest10
        case hy10 =>
          intro W _
          kernel_rfl
        case rest10 =>
        try simp only [List.getElem_toArray, List.getElem_cons_succ, List.getElem_cons_zero, Act.put, List.setIfInBounds_toArray, List.set_cons_zero, List.set_cons_succ]
        refine' wpAnyH_take (i := 11) (oi := _) (v := .int .u64 0) rfl (by kernel_rfl) (by kernel_rfl) (by kernel_rfl) (fun _ _ _ h => h) (Or.inl ⟨by kernel_rfl, ?hy11⟩) (by assumption) ?rest11
        case hy11 =>
          intro W _
          kernel_rfl
        case rest11 =>
        try simp only [List.getElem_toArray, List.getElem_cons_succ, List.getElem_cons_zero, Act.put, List.setIfInBounds_toArray, List.set_cons_zero, List.set_cons_succ]
        refine' wpAnyH_take (i := 12) (oi := _) (v := .bool false) rfl (by kernel_rfl) (by kernel_rfl) (by kernel_rfl) (fun _ _ _ h => h) (Or.inl ⟨by kernel_rfl, ?hy12⟩) (by assumption) ?rest12
        case hy12 =>
          intro W _
          kernel_rfl
        case rest12 =>
        try simp only [List.getElem_toArray, List.getElem_cons_succ, List.getElem_cons_zero, Act.put, List.setIfInBounds_toArray, List.set_cons_zero, List.set_cons_succ]
        refine wpAnyH_done (by kernel_rfl) ?_ _
        refine NoPanic.normal ?_
        clear hHeld
        have k33 : u1.cell? ⟨Y, 33, none⟩ = some (.slice (some ⟨B, o, none⟩) m d) := ((show At _ Y TC (ccl ht h (.slice (some ⟨B, o, none⟩) m d)) from HB.out.drop.drop.drop.head).cell 33).trans (ccl_33 _ _ _ HL.out)
        have r1 : u1.cell? ⟨B, o + k * 2 + 1, none⟩ = some (.int .u64 x.sg) := HR.out u1 HB.out.low 1 _ rfl
        have hln : acc.length = on := by obtain ⟨va, vc, e⟩ := (show OwnT u1 (.slice oa on oc) acc from HB.out.head).len_of; cases e; rfl
        have HLD := WirS.hide (fun (U : World) (hU : OwnT U (.slice oa on oc) acc) => laid_any U oa on oc acc x hU.vin HXO.out (by have := HAL.out; have := HN.out; have := HM.out; omega))
        have HSG := WirS.hide (fun (U : World) (hU : Below w.heap.size w U) (hY : At U Y TC (ccl ht h (.slice (some ⟨B, o, none⟩) m d))) => (show U.cell? ⟨Y, 33, none⟩ = some (.slice (some ⟨B, o, none⟩) m d) ∧ U.rangeAt B (o + k * 2) x.cells from ⟨(hY.cell 33).trans (ccl_33 _ _ _ HL.out), HR.out U hU⟩))
        go_upto_region 16 with fail
        have HZ : Hid (Bag w u1.drew [ownt (.slice oa on oc) acc, box TC O (ccl ht h (.slice oa on oc)), box TC Z zcm, box TC Y (ccl ht h (.slice (some ⟨B, o, none⟩) m d)), box TC X (ccl ht h (.slice a n c))]) := WirS.hide (HB.out.more (below_drewN (Below.refl _ _) 1))
        clear HB k33 r1
        refine wp_region_noPanic ?_
        refine wp_region_held_drew (S := (fun U => U.cell? ⟨Y, 33, none⟩ = some (.slice (some ⟨B, o, none⟩) m d) ∧ U.rangeAt B (o + k * 2) x.cells)) (by kernel_rfl) (HSG.out _ HZ.out.low HZ.out.drop.drop.drop.head) (fun hHeld => ?_)
        generalize World.drew u1 = z1 at *
        refine' wpAnyH_take (i := 0) (oi := _) (v := .pointer (some ⟨O, 33, none⟩)) rfl (by kernel_rfl) (by kernel_rfl) (by kernel_rfl) (fun _ _ _ h => h) (Or.inl ⟨by kernel_rfl, ?hy0⟩) (by assumption) ?rest0
        case hy0 =>
          intro W _
          kernel_rfl
        case rest0 =>
        try simp only [List.getElem_toArray, List.getElem_cons_zero, Act.put, List.setIfInBounds_toArray, List.set_cons_zero, List.set_cons_succ]
        refine' wpAnyH_take (i := 2) (oi := _) (v := .pointer (some ⟨Y, 33, none⟩)) rfl (by kernel_rfl) (by kernel_rfl) (by kernel_rfl) (fun _ _ _ h => h) (Or.inl ⟨by kernel_rfl, ?hy2⟩) (by assumption) ?rest2
        case hy2 =>
          intro W _
          kernel_rfl
        case rest2 =>
        try simp only [List.getElem_toArray, List.getElem_cons_succ, List.getElem_cons_zero, Act.put, List.setIfInBounds_toArray, List.set_cons_zero, List.set_cons_succ]
        refine' wpAnyH_take (i := 3) (oi := _) (v := _) rfl (by kernel_rfl) (by kernel_rfl) (by kernel_rfl) (fun _ _ _ h => h) (Or.inl ⟨by kernel_rfl, ?hy3⟩) (by assumption) ?rest3
        case hy3 =>
          intro w hSw
          try dsimp only at hSw
          go_simp
          try with_reducible rfl
        case rest3 =>
        try simp only [List.getElem_toArray, List.getElem_cons_succ, List.getElem_cons_zero, Act.put, List.setIfInBounds_toArray, List.set_cons_zero, List.set_cons_succ]
        refine' wpAnyH_take (i := 4) (oi := _) (v := .int .i64 (k : Int)) rfl (by kernel_rfl) (by kernel_rfl) (by kernel_rfl) (fun _ _ _ h => h) (Or.inl ⟨by kernel_rfl, ?hy4⟩) (by assumption) ?rest4
        case hy4 =>
          intro W _
          kernel_rfl
        case rest4 =>
        try simp only [List.getElem_toArray, List.getElem_cons_succ, List.getElem_cons_zero, Act.put, List.setIfInBounds_toArray, List.set_cons_zero, List.set_cons_succ]
        refine' wpAnyH_take (i := 5) (oi := _) (v := .pointer (some ⟨B, o + k * 2, none⟩)) rfl (by kernel_rfl) (by kernel_rfl) (by kernel_rfl) (fun _ _ _ h => h) (Or.inl ⟨by kernel_rfl, ?hy5⟩) (by assumption) ?rest5
        case hy5 =>
          intro W _
          exact (fun W => opX _ _ _ _ B o m d k rfl (by kernel_rfl) (by kernel_rfl) hlt W) W
        case rest5 =>
        try simp only [List.getElem_toArray, List.getElem_cons_succ, List.getElem_cons_zero, Act.put, List.setIfInBounds_toArray, List.set_cons_zero, List.set_cons_succ]
        refine' wpAnyH_take (i := 6) (oi := _) (v := .agg (x.cells).toArray) rfl (by kernel_rfl) (by kernel_rfl) (by kernel_rfl) (fun _ _ _ h => h) (yieldsIf_load_mid (by kernel_rfl) TV (.tmp 79) (by kernel_rfl) B (o + k * 2) (by kernel_rfl) (x.cells) _ (fun _ h => h.2) Try.underlying113 (by kernel_rfl) ((by rfl))) (by assumption) ?rest6
        case rest6 =>
        try simp only [List.getElem_toArray, List.getElem_cons_succ, List.getElem_cons_zero, Act.put, List.setIfInBounds_toArray, List.set_cons_zero, List.set_cons_succ]
        refine wpAnyH_ready (rs := [1]) (by kernel_rfl) (by simp) ?_
        refine AllReadyH.cons rfl (fun K hK => ?_) AllReadyH.nil
        rw [if_pos (by kernel_rfl)]
        refine wp_load_cell TL (.tmp 74) (by kernel_rfl) ⟨O, 33, none⟩ (.slice oa on oc) (by kernel_rfl) (((show At _ O TC (ccl ht h (.slice oa on oc)) from HZ.out.drop.head).cell 33).trans (ccl_33 _ _ _ HL.out)) (by kernel_rfl) ?_
        try simp only [List.getElem_toArray, List.getElem_cons_succ, List.getElem_cons_zero, Act.put, List.setIfInBounds_toArray, List.set_cons_zero, List.set_cons_succ]
        refine hK.out _ _ (HSG.out _ HZ.out.low HZ.out.drop.drop.drop.head) (fun hHeld => ?_)
        clear hK K
        refine wpAnyH_ready (rs := [7]) (by kernel_rfl) (by simp) ?_
        refine AllReadyH.cons rfl (fun K hK => ?_) AllReadyH.nil
        rw [if_pos (by kernel_rfl)]
        refine stepCallX (HLD.out z1 HZ.out.head) (by kernel_rfl) ?_
        rintro e u2 ⟨na, nm, nc, rfl, ho, hnb, hb⟩
        refine ⟨_, rfl, ?_⟩
        try simp only [List.getElem_toArray, List.getElem_cons_succ, List.getElem_cons_zero, Act.put, List.setIfInBounds_toArray, List.set_cons_zero, List.set_cons_succ]
        have HC1' := WirS.hide (bag_ownt HZ.out ho hnb hb)
        clear ho hnb hb HZ
        refine hK.out _ _ (HSG.out _ HC1'.out.low HC1'.out.drop.drop.drop.drop.head) (fun hHeld => ?_)
        clear hK K
        refine' wpAnyH_take (i := 8) (oi := _) (v := .pointer (some ⟨O, 33, none⟩)) rfl (by kernel_rfl) (by kernel_rfl) (by kernel_rfl) (fun _ _ _ h => h) (Or.inl ⟨by kernel_rfl, ?hy8⟩) (by assumption) ?rest8
        case hy8 =>
          intro W _
          kernel_rfl
        case rest8 =>
        try simp only [List.getElem_toArray, List.getElem_cons_succ, List.getElem_cons_zero, Act.put, List.setIfInBounds_toArray, List.set_cons_zero, List.set_cons_succ]
        refine wpAnyH_ready (rs := [9]) (by kernel_rfl) (by simp) ?_
        refine AllReadyH.cons rfl (fun K hK => ?_) AllReadyH.nil
        rw [if_pos (by kernel_rfl)]
        have HC3 := WirS.hide HC1'.out.swap.drop.swap
        clear HC1'
        refine store_sl (x := .tmp 82) (y := .tmp 81) (by kernel_rfl) O 33 na nm nc _ (by kernel_rfl) (by kernel_rfl) (HC3.out.head.cell 33) (by rw [ccl_33 _ _ _ HL.out]; rfl) (HC3.out.head.frozen 33) ?_
        have hb9 := bag_set HC3.out 33 (.slice na nm nc)
        rw [ccl_set _ _ _ _ HL.out] at hb9
        have HB9 := WirS.hide hb9.swap
        clear hb9 HC3
        refine hK.out _ _ (HSG.out _ HB9.out.low HB9.out.drop.drop.drop.head) (fun hHeld => ?_)
        clear hK K
        try simp only [Act.put]
        generalize World.setCell u2 _ _ = y1 at *
        refine wpAnyH_done (by kernel_rfl) ?_ _
        refine NoPanic.normal ?_
        clear hHeld
        go_wp2_with fail
        go_roundw
        case rel => exact ⟨k + 1, lay x acc false, na, nm, nc, by omega, by go_num, by have := HAL.out; have := lay_len x acc false; omega, HE.out, HB9.out⟩
        case measure => simp [intOf]; omega
    · have hd : us.drop k = [] := List.drop_eq_nil_of_le (by rw [HW.out.len]; omega)
      have hkl : ¬ (k : Int) < (m : Int) := by omega
      rw [hd, dj] at hE
      have HE := WirS.hide hE
      clear hE hd
      go_upto_region 17 with fail
      refine wp_region_lit ?_
      refine sL (by kernel_rfl) _ _ (by rfl) _ (by kernel_rfl) HB.out.drop.head _ _ UC rfl (by kernel_rfl) (by rw [ccl_len _ _ _ HL.out]) ?_
      simp only [Act.put, List.setIfInBounds_toArray, List.set_cons_succ, List.set_cons_zero]
      have HS := WirS.hide (HB.out.perm (show [ownt (.slice oa on oc) acc, box TC O (ccl ht h (.slice oa on oc)), box TC Z zcm, box TC Y (ccl ht h (.slice b m d)), box TC X (ccl ht h (.slice a n c))].Perm [box TC Z zcm, ownt (.slice oa on oc) acc, box TC O (ccl ht h (.slice oa on oc)), box TC Y (ccl ht h (.slice b m d)), box TC X (ccl ht h (.slice a n c))] from List.perm_middle (l₁ := [ownt (.slice oa on oc) acc, box TC O (ccl ht h (.slice oa on oc))])))
      clear HB
      refine stepStore (by rfl) _ _ _ (by rfl) Z (ccl ht h (.slice oa on oc)) (by kernel_rfl) (by kernel_rfl) HS.out.head 34 (by kernel_rfl) (by rfl) (ccl_len _ _ _ HL.out) (one_ccl _ _ _ _ _) ?_
      simp only [Act.put]
      have HF := WirS.hide (bag_row HS.out (ccl ht h (.slice oa on oc)))
      clear HS
      generalize World.setRow wr Z _ = xf at *
      go_wp2_with fail
      refine bodyPost_ret (retRow2 HF.out.head Try.results82 _ (by rfl) (.int .i64 0) (by rfl) _ 34 UC rfl (by kernel_rfl) (by exact ccl_len _ _ _ HL.out)) rfl ?_
      rw [← HO.out, HE.out]
      exact ⟨oa, on, oc, rfl, HF.out.drop.head, fun q hq => (HF.out.all (ownt (.slice oa on oc) acc) (by simp)).2 q hq, HF.out.low⟩
theorem rjoin_any (w : World) (ht hu : Int) (h k : List Int) (a b : Option Addr) (n c m d : Nat) (vs us : List Vt) (hl : h.length = 32) (kl : k.length = 32) (hv : VtIn w a n c vs) (hw : VtIn w b m d us) (hn : n ≤ 70) (hm : m ≤ 70) : Calls Try.prog 82 #[.agg (ccl ht h (.slice a n c)).toArray, .agg (ccl hu k (.slice b m d)).toArray] w (JP w ht h (joinO ht h vs hu k us)) := by
  unfold joinO
  by_cases h1 : chk ht vs = 0
  · rw [if_neg (by simpa using h1)]
    by_cases h2 : chk hu us = 0
    · rw [if_neg (by simpa using h2)]
      by_cases h3 : ht = hu
      · subst h3
        by_cases h4 : h = k
        · subst h4
          rw [if_neg (by simp)]
          have hd := dj_all ((chk_up ht vs).1 h1).2.2 ((chk_up ht us).1 h2).2.2
          cases h5 : mg vs us with
          | none => exact rjoin_loop w ht h a b n c m d vs us hl hv hw hn hm h1 h2 none (hd.trans h5)
          | some r => exact rjoin_loop w ht h a b n c m d vs us hl hv hw hn hm h1 h2 (some r) (hd.trans h5)
        · rw [if_pos (.inr h4)]
          exact rjoin_d w ht ht h k a b n c m d vs us hl kl hv hw h1 h2 rfl h4
      · rw [if_pos (.inl h3)]
        exact rjoin_c w ht hu h k a b n c m d vs us hl kl hv hw h1 h2 h3
    · rw [if_pos h2]
      exact rjoin_b w ht hu h k a b n c m d vs us hl kl hv hw h1 h2
  · rw [if_pos h1]
    exact rjoin_a w ht hu h k a b n c m d vs us hl kl hv hw h1
end CmZ
end Go.Proofs.Ytplinpbmncccoaa

namespace Go.Proofs.Ytplinpbmncccoaa
namespace CmOv
open Go.RowKit
open BlkM WirM WirS CmA CmP CmB CmI

def MidOv (W0 : World) (X : Nat) (cs : List Value) (g n : Nat) (i : Value) (U : World) : Prop := ∃ (k : Nat) (cur : Array Value), k ≤ n ∧ i = .int .i64 (k : Int) ∧ U.heap[g]? = some (.cells cur TV) ∧ n * 2 ≤ cur.size ∧ At U X TC cs ∧ Fr (fun k => k = g) W0 U
theorem row_cell {U : World} {g j : Nat} {cur : Array Value} {T : TypeId} (h : U.heap[g]? = some (.cells cur T)) (hj : j < cur.size) : (∃ v, U.cell? ⟨g, j, none⟩ = some v) ∧ U.frozen? ⟨g, j, none⟩ = false := by
  refine ⟨⟨cur[j], ?_⟩, by simp [World.frozen?, h]⟩
  simp only [World.cell?, h]
  simp [hj]
set_option maxRecDepth 10000 in
set_option maxHeartbeats 2000000 in
theorem over_any (w : World) (ht : Int) (h : List Int) (a : Option Addr) (n c : Nat) (vs : List Vt) (hl : h.length = 32) (hv : OwnT w (.slice a n c) vs) (hn : n ≤ 1000) :
    Calls Try.prog 78 #[.agg (ccl ht h (.slice a n c)).toArray] w fun e w' => e = .returned (.tuple #[]) ∧ Fr (fun k => (Value.slice a n c).ownBlock = some k) w w' := by
  obtain ⟨W0, e0⟩ : ∃ X, X = w.alloc (.cells (ccl ht h (.slice a n c)).toArray TC) := ⟨_, rfl⟩
  have hA : At W0 w.heap.size TC (ccl ht h (.slice a n c)) := by rw [e0]; exact At.new w _ _
  have hB : Below w.heap.size w W0 := by rw [e0]; exact Below.alloc (Below.refl _ _) (Nat.le_refl _) _
  have k33 : W0.cell? ⟨w.heap.size, 33, none⟩ = some (.slice a n c) := (hA.cell 33).trans (ccl_33 _ _ _ hl)
  have E0 := WirS.hide e0
  have HB := WirS.hide hB
  by_cases h0 : n = 0
  · subst h0
    clear hv hA hB e0
    go_enter Try.func78, Try.ntmps78
    go_upto_region 1 with fail
    rw [← E0.out]
    go_wp2_with fail
    refine wp_loop_rounds 1 ?_
    rw [rounds_succ]
    go_wp2_with fail
    first | go_end0 | refine bodyPost_ret (results_none rfl _ _ _) rfl ?_
    exact ⟨rfl, Fr.of_below HB.out⟩
  · obtain ⟨g, cur, rfl, hg, hs⟩ : ∃ g cur, a = some ⟨g, 0, none⟩ ∧ w.heap[g]? = some (.cells cur TV) ∧ n * 2 ≤ cur.size := by
      obtain ⟨⟨hl2, ⟨e, _⟩ | ⟨g, cap, cur, e, hb, hg, h1, h2, h3, h4⟩⟩, _⟩ := hv
      · cases e
        exact absurd rfl h0
      · cases e
        exact ⟨g, cur, rfl, hg, by omega⟩
    have hgl : g < w.heap.size := (Array.getElem?_eq_some_iff.1 hg).1
    have HGL := WirS.hide hgl
    have HST := WirS.hide (show MidOv W0 w.heap.size (ccl ht h (.slice (some ⟨g, 0, none⟩) n c)) g n (.int .i64 0) W0 from ⟨0, cur, Nat.zero_le _, rfl, (hB.block g hgl).trans hg, hs, hA, Fr.refl _ _⟩)
    have HLn := WirS.hide hl
    clear hg hs hv hA hB e0 hgl hl
    go_enter Try.func78, Try.ntmps78
    go_upto_region 1 with fail
    rw [← E0.out]
    go_wp2_with fail
    go_loopw [2] (fun i wr => MidOv W0 w.heap.size (ccl ht h (.slice (some ⟨g, 0, none⟩) n c)) g n i wr) (fun i _ => n - (intOf i).toNat)
    case atStart => exact HST.out
    case round =>
      clear HST k33
      obtain ⟨k, cur, hk, rfl, hg, hs, hA, hf⟩ := hrel
      have HF := WirS.hide hf
      have k33 : wr.cell? ⟨w.heap.size, 33, none⟩ = some (.slice (some ⟨g, 0, none⟩) n c) := (hA.cell 33).trans (ccl_33 _ _ _ HLn.out)
      have HA := WirS.hide hA
      by_cases hlt : k < n
      · obtain ⟨⟨v0, c0⟩, f0⟩ := row_cell (j := k * 2) hg (by omega)
        obtain ⟨⟨v1, c1⟩, f1⟩ := row_cell (j := k * 2 + 1) hg (by omega)
        have hkl : (k : Int) < (n : Int) := by omega
        have HG := WirS.hide hg
        have HS := WirS.hide hs
        have hne : w.heap.size ≠ g := by have := HGL.out; omega
        have HNE := WirS.hide hne
        clear hg hs hf hA hne
        go_wp2_with fail
        go_roundw
        case rel =>
          refine ⟨k + 1, _, by omega, by go_num, heap_setCell_same _ _ _ _ _ _ (heap_setCell_same _ _ _ _ _ _ HG.out), by simpa using HS.out, (HA.out.setCell_other HNE.out _ _).setCell_other HNE.out _ _, ?_⟩
          exact (HF.out.setCell g _ _ (fun _ => rfl)).setCell g _ _ (fun _ => rfl)
        case measure => simp [intOf]; omega
      · have hkl : ¬ (k : Int) < (n : Int) := by omega
        clear hg hs hf hA
        go_wp2_with fail
        first | go_end0 | refine bodyPost_ret (results_none rfl _ _ _) rfl ?_
        exact ⟨rfl, (Fr.of_below HB.out).trans (HF.out.mono (fun q _ hq => by rw [hq]; rfl))⟩
end CmOv
end Go.Proofs.Ytplinpbmncccoaa

namespace Go.Proofs.Ytplinpbmncccoaa
namespace CmAd
open Go.RowKit
open BlkM WirM WirS CmA CmP CmB CmI CmJ
open CmL (joinO JP)

theorem hd70 (n : Nat) : decide ((70 : Int) < (n : Int)) = decide (70 < n) := by
  by_cases e : 70 < n
  · rw [decide_eq_true e, decide_eq_true (by omega)]
  · rw [decide_eq_false e, decide_eq_false (by omega)]
theorem long_any (w : World) (ht : Int) (h : List Int) (a : Option Addr) (n c : Nat) (hl : h.length = 32) :
    Calls Try.prog 62 #[.agg (ccl ht h (.slice a n c)).toArray] w fun e w' => e = .returned (.bool (decide (70 < n))) ∧ Below w.heap.size w w' := by
  obtain ⟨W0, e0⟩ : ∃ X, X = w.alloc (.cells (ccl ht h (.slice a n c)).toArray TC) := ⟨_, rfl⟩
  have hA : At W0 w.heap.size TC (ccl ht h (.slice a n c)) := by rw [e0]; exact At.new w _ _
  have hB : Below w.heap.size w W0 := by rw [e0]; exact Below.alloc (Below.refl _ _) (Nat.le_refl _) _
  have k33 : W0.cell? ⟨w.heap.size, 33, none⟩ = some (.slice a n c) := (hA.cell 33).trans (ccl_33 _ _ _ hl)
  have E0 := WirS.hide e0
  have HB := WirS.hide hB
  clear hA hB e0
  go_enter Try.func62, Try.ntmps62
  go_upto_region 1 with fail
  rw [← E0.out]
  go_wp2_with fail
  go_ret
  exact ⟨show Ending.returned (.bool (decide ((70 : Int) < (n : Int)))) = _ from by rw [hd70 n], HB.out⟩
/-- The height, the hash's bytes, the votes that Join tells. -/
def jt (o : Int × Option (List Vt)) (ht : Int) : Int := if o.2.isSome then ht else 0
def jh (o : Int × Option (List Vt)) (h : List Int) : List Int := if o.2.isSome then h else z32
def jl (o : Int × Option (List Vt)) : List Vt := o.2.getD []
theorem jp_cp {w w' : World} {ht : Int} {h : List Int} {o : Int × Option (List Vt)} {e : Ending} (hj : JP w ht h o e w') : CP w o.1 (jt o ht) (jh o h) (jl o) e w' := by
  obtain ⟨cd, r⟩ := o
  cases r <;> exact hj
theorem jh_len {o : Int × Option (List Vt)} {h : List Int} (hl : h.length = 32) : (jh o h).length = 32 := by
  unfold jh
  split
  · exact hl
  · rfl
end CmAd
end Go.Proofs.Ytplinpbmncccoaa

namespace Go.Proofs.Ytplinpbmncccoaa
namespace CmW
open Go.RowKit Go.WideShapes Go.ChangeShapes Go.ChangeAt
open BlkM WirM WirS CmA
open CmB (ccl)
open WirO1 (row8)

theorem list_of {α : Type} {P : Nat → α → Prop} : ∀ n, (∀ i, i < n → ∃ x, P i x) → ∃ l : List α, l.length = n ∧ ∀ i x, l[i]? = some x → P i x
  | 0, _ => ⟨[], rfl, fun i x h => by simp at h⟩
  | n + 1, h => by
    obtain ⟨l, hl, hp⟩ := list_of n (fun i hi => h i (by omega))
    obtain ⟨x, hx⟩ := h n (by omega)
    refine ⟨l ++ [x], by simp [hl], fun i y hy => ?_⟩
    rcases Nat.lt_or_ge i n with hi | hi
    · rw [List.getElem?_append_left (by omega)] at hy
      exact hp i y hy
    · rw [List.getElem?_append_right (by omega), hl] at hy
      obtain rfl : i = n := by
        have := (List.getElem?_eq_some_iff.1 hy).1
        simp at this
        omega
      simp at hy
      subst hy
      exact hx
theorem add_two (a : Addr) (n m : Nat) : a.add (n + m) = (a.add n).add m := by
  unfold Addr.add
  by_cases h1 : n = 0
  · subst h1
    simp
  · by_cases h2 : m = 0
    · subst h2
      simp
    · have h3 : ¬ n + m = 0 := by omega
      simp [h1, h2, Nat.add_assoc]
section
variable {H : Type} {enc : TypeId × Value → H} {W : World}
theorem vote_open {fuel : Nat} {cs : List Value} {x : DataW H × List MemPlace} (h : DataW.trod enc Try.prog W 0 (fun _ => true) true fuel 113 cs = some x) : ∃ v : Vt, cs = v.cells ∧ v.ok := by
  have cI : Try.prog.cellsOf 3 = 1 := by kernel_rfl
  have cU : Try.prog.cellsOf 37 = 1 := by kernel_rfl
  have cT : Try.prog.cellsOf 113 = 2 := by kernel_rfl
  obtain ⟨xs, n, _, _, hl, hlen, hf⟩ := DataW.trod_struct Try.underlying113 h
  rw [cT] at hl
  have e0 := hf 0 _ rfl
  have e1 := hf 1 _ rfl
  clear hf
  match xs, hlen with
  | [y0, y1], _ =>
  obtain ⟨n0, p0, _, w0⟩ := DataW.trod_int Try.underlying3 e0
  obtain ⟨n1, p1, _, w1⟩ := DataW.trod_int Try.underlying37 e1
  have p0 : (cs.drop 0).take (Try.prog.cellsOf 3) = _ := p0
  have p1 : (cs.drop 1).take (Try.prog.cellsOf 37) = _ := p1
  rw [cI] at p0
  rw [cU] at p1
  have q0 := WirO1.part 0 1 1 p0 rfl
  have q1 := WirO1.part 1 1 2 p1 rfl
  have q2 : cs.drop 2 = [] := List.drop_eq_nil_of_le (by omega)
  rw [q1, q2, List.drop_zero] at q0
  simp [Lit.wf, IntKind.min, IntKind.max, IntKind.signed, IntKind.bits] at w0 w1
  exact ⟨⟨n0, n1⟩, by simpa [Vt.cells] using q0, ⟨⟨by show _ ≤ n0; omega, by show n0 < _; omega⟩, ⟨by show _ ≤ n1; omega, by show n1 < _; omega⟩⟩⟩
theorem votes_in {fuel : Nat} {cs : List Value} {x : DataW H × List MemPlace} (h : DataW.trod enc Try.prog W 0 (fun _ => true) true fuel 93 cs = some x) :
    ∃ la ln lc vs, cs = [.slice la ln lc] ∧ VtIn W la ln lc vs := by
  rcases DataW.trod_slice Try.underlying93 h with ⟨hcs, _⟩ | ⟨a, len, cap, elems, rest, n, _, hcs, _, _, hl, hm, hlen, hel, _, _⟩
  · exact ⟨none, 0, 0, [], hcs, VtIn.nil W none 0 (by decide)⟩
  · have cT : Try.prog.cellsOf 113 = 2 := by kernel_rfl
    rw [cT] at hel
    have each : ∀ i, i < len → ∃ x : Vt, (∀ j v, x.cells[j]? = some v → W.cell? (a.add (i * 2 + j)) = some v) ∧ x.ok := by
      intro i hi
      have h1 := hel i hi
      rw [List.getElem?_eq_getElem (show i < elems.length by omega), Option.bind_eq_some_iff] at h1
      obtain ⟨cs', hc, ht⟩ := h1
      obtain ⟨_, hcl, hat⟩ := World.cells?_some hc
      obtain ⟨v, rfl, hok⟩ := vote_open ht
      refine ⟨v, fun j u hj => ?_, hok⟩
      have hj2 : j < 2 := (List.getElem?_eq_some_iff.1 hj).1
      rw [add_two a, hat j hj2]
      exact hj
    obtain ⟨vs, hvs, hp⟩ := list_of len each
    refine ⟨some a, len, cap, vs, hcs, ⟨hvs, hl, by unfold maxLen at hm; omega, fun hpos => ?_, fun x hx => ?_⟩⟩
    · obtain ⟨b, off, spot⟩ := a
      obtain ⟨x0, hx0⟩ : ∃ x0, vs[0]? = some x0 := ⟨_, List.getElem?_eq_getElem (by omega)⟩
      have h0 := (hp 0 x0 hx0).1 0 _ rfl
      have hspot : spot = none := by simpa [Addr.add] using World.cell?_spot h0
      subst hspot
      refine ⟨b, off, rfl, ?_, fun i x hx j v hj => ?_⟩
      · rw [Go.WideShapes.add_plain] at h0
        unfold World.cell? at h0
        rcases Nat.lt_or_ge b W.heap.size with h | h
        · exact h
        · have : W.heap[b]? = none := by simp [h]
          simp [this] at h0
      · have h2 := (hp i x hx).1 j v hj
        rw [Go.WideShapes.add_plain] at h2
        rw [Nat.add_assoc]
        exact h2
    · obtain ⟨i, hi, rfl⟩ := List.getElem_of_mem hx
      exact (hp i _ (List.getElem?_eq_getElem hi)).2
theorem c_cells {fuel : Nat} {cs : List Value} {x : DataW H × List MemPlace} (h : DataW.trod enc Try.prog W 0 (fun _ => true) true fuel 95 cs = some x) :
    ∃ (ht : Int) (k : List Int) (a : Option Addr) (n c : Nat) (vs : List Vt), cs = ccl ht k (.slice a n c) ∧ k.length = 32 ∧ VtIn W a n c vs ∧ (∀ z ∈ k, 0 ≤ z ∧ z < 256) ∧ -9223372036854775808 ≤ ht ∧ ht < 9223372036854775808 := by
  have cI : Try.prog.cellsOf 3 = 1 := by kernel_rfl
  have cH : Try.prog.cellsOf 34 = 32 := by kernel_rfl
  have cV : Try.prog.cellsOf 93 = 1 := by kernel_rfl
  have cT : Try.prog.cellsOf 95 = 34 := by kernel_rfl
  obtain ⟨xs, n, _, _, hl, hlen, hf⟩ := DataW.trod_struct Try.underlying95 h
  rw [cT] at hl
  have e0 := hf 0 _ rfl
  have e1 := hf 1 _ rfl
  have e2 := hf 2 _ rfl
  clear hf
  match xs, hlen with
  | [y0, y1, y2], _ =>
  obtain ⟨n0, p0, _, w0⟩ := DataW.trod_int Try.underlying3 e0
  obtain ⟨l1, p1, h1, r1⟩ := row8 (k := 32) Try.underlying34 cH e1
  obtain ⟨a, m, c, vs, p2, hv⟩ := votes_in e2
  have p0 : (cs.drop 0).take (Try.prog.cellsOf 3) = _ := p0
  have p1 : (cs.drop 1).take (Try.prog.cellsOf 34) = _ := p1
  have p2 : (cs.drop 33).take (Try.prog.cellsOf 93) = _ := p2
  rw [cI] at p0
  rw [cH] at p1
  rw [cV] at p2
  have q0 := WirO1.part 0 1 1 p0 rfl
  have q1 := WirO1.part 1 32 33 p1 rfl
  have q2 := WirO1.part 33 1 34 p2 rfl
  have q3 : cs.drop 34 = [] := List.drop_eq_nil_of_le (by omega)
  rw [q1, q2, q3, List.drop_zero] at q0
  simp [Lit.wf, IntKind.min, IntKind.max, IntKind.signed, IntKind.bits] at w0
  refine ⟨n0, l1, a, m, c, vs, ?_, h1, hv, r1, by omega, by omega⟩
  rw [q0]
  simp [ccl, b8]
set_option maxRecDepth 100000 in
theorem v_open {base : Nat} {v : Value} {d : DataW H} {p : List MemPlace} (hv : Value.okWide Try.prog W .any base 95 v) (h : DataW.Trod enc Try.prog W 0 (fun _ => true) true 95 v d p) :
    ∃ (ht : Int) (k : List Int) (a : Option Addr) (n c : Nat) (vs : List Vt), v = .agg (ccl ht k (.slice a n c)).toArray ∧ k.length = 32 ∧ VtIn W a n c vs ∧ (∀ z ∈ k, 0 ≤ z ∧ z < 256) ∧ -9223372036854775808 ≤ ht ∧ ht < 9223372036854775808 := by
  obtain ⟨cs, rfl, _⟩ := okWide_struct Try.underlying95 hv
  obtain ⟨fuel, hf⟩ := h
  obtain ⟨ht, k, a, n, c, vs, e, hw⟩ := c_cells hf
  have e' : cs.toList = ccl ht k (.slice a n c) := e
  refine ⟨ht, k, a, n, c, vs, ?_, hw⟩
  rw [← e']
end
end CmW
end Go.Proofs.Ytplinpbmncccoaa

