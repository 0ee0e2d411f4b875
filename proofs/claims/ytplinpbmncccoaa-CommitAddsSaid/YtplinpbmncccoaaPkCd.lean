/-
  CmAe, CmAf, in one text.
-/
import Derived.Test.YtplinpbmncccoaaPkCc
namespace Go.Proofs.Ytplinpbmncccoaa
namespace CmAe
open Go.RowKit
open BlkM WirM WirS CmA CmP CmB CmE CmI CmJ CmT CmU CmV CmXB CmAd
open WirX (Thg Bag)
open WirAA (box bag_box bag_set)
open WirAB (sCx)

theorem mg_len : ∀ (l all r : List Vt), mg all l = some r → r.length ≤ all.length + l.length
  | [], all, r, h => by cases h; simp
  | y :: l, all, r, h => by
    rw [mg] at h
    cases e : ofV y.at' all with
    | none =>
      rw [e] at h
      have := mg_len l _ r h
      rw [insV_len] at this
      simp
      omega
    | some s =>
      rw [e] at h
      simp only at h
      by_cases q : s = y.sg
      · rw [if_pos q] at h
        have := mg_len l _ r h
        simp
        omega
      · rw [if_neg q] at h
        cases h
theorem jl_len (ht : Int) (h : List Int) (vs : List Vt) (hu : Int) (k : List Int) (us : List Vt) : (jl (CmL.joinO ht h vs hu k us)).length ≤ vs.length + us.length := by
  unfold jl CmL.joinO
  repeat' split
  all_goals first | (simp; done) | (simp only [Option.getD_some]; exact mg_len _ _ _ (by assumption))
theorem eqE (x : Int) (W : World) : (binOp .eql 26 (.int .i64 x) (.int .i64 x)).run Try.prog W = .ok (.bool true) W := by
  simp [binOp, go_sem]
def gone : Thg where
  ok _ := True
  foot _ := False
  stable _ _ _ := trivial
  inside _ _ h := h.elim
set_option maxRecDepth 20000 in
set_option maxHeartbeats 16000000 in
theorem adds_main (w : World) (ht hu : Int) (h k : List Int) (a b : Option Addr) (n c m d : Nat) (vs us : List Vt) (v : Vt) (hl : h.length = 32) (kl : k.length = 32) (hv : VtIn w a n c vs) (hw : VtIn w b m d us) (hn : n ≤ 70) (hm : m ≤ 70) (hvo : v.ok) : Calls Try.prog 14 #[.agg (ccl ht h (.slice a n c)).toArray, .agg (ccl hu k (.slice b m d)).toArray, .agg #[.int .i64 v.at', .int .u64 v.sg]] w fun e w' => e = .returned (.bool true) ∧ Below w.heap.size w w' := by
  have HL := WirS.hide hl
  have HK := WirS.hide kl
  have HLA := WirS.hide (fun U => long_any U ht h a n c hl)
  have HLB := WirS.hide (fun U => long_any U hu k b m d kl)
  have HCA := WirS.hide (fun U (hU : Below w.heap.size w U) => copy_any U ht h a n c vs hl (hv.below hU) (by omega))
  have HCB := WirS.hide (fun U (hU : Below w.heap.size w U) => copy_any U hu k b m d us kl (hw.below hU) (by omega))
  have HV := WirS.hide hv
  have HW := WirS.hide hw
  have HN := WirS.hide hn
  have HM := WirS.hide hm
  have HVO := WirS.hide hvo
  rw [decide_eq_false (by omega)] at HLA HLB
  have hAD := fun (U : World) (ca : Option Addr) (cc : Nat) (hU : VtIn U ca n cc vs) => add_any U ht h ca n cc vs v hl hU (by omega) hvo
  have hRA := fun (U : World) (hU : Below w.heap.size w U) => radd_any U ht h a n c vs v hl (hv.below hU) (by omega) hvo
  have hJN := fun (U : World) (ca da : Option Addr) (cc dc : Nat) (hU : VtIn U ca n cc vs) (hU2 : VtIn U da m dc us) => (CmL.join_any U ht hu h k ca da n cc m dc vs us hl kl hU hU2 hn hm).mono fun _ _ => jp_cp
  have hRJ := fun (U : World) (hU : Below w.heap.size w U) => (CmZ.rjoin_any U ht hu h k a b n c m d vs us hl kl (hv.below hU) (hw.below hU) hn hm).mono fun _ _ => jp_cp
  obtain ⟨ah, hah⟩ : ∃ z, (if addE ht vs v = 0 then ht else 0) = z := ⟨_, rfl⟩
  obtain ⟨ak, hak⟩ : ∃ z, (if addE ht vs v = 0 then h else z32) = z := ⟨_, rfl⟩
  obtain ⟨av, hav⟩ : ∃ z, (if addE ht vs v = 0 then insV vs v else []) = z := ⟨_, rfl⟩
  have hakl : ak.length = 32 := by rw [← hak]; split; exact hl; rfl
  have havl : av.length ≤ 1000 := by
    have := hv.len
    rw [← hav]
    split
    · rw [insV_len]; omega
    · simp
  rw [hah, hak, hav] at hAD hRA
  have hjkl : (jh (CmL.joinO ht h vs hu k us) h).length = 32 := jh_len hl
  have hjvl : (jl (CmL.joinO ht h vs hu k us)).length ≤ 1000 := by have := jl_len ht h vs hu k us; have := hv.len; have := hw.len; omega
  generalize addE ht vs v = ae at *
  generalize jt (CmL.joinO ht h vs hu k us) ht = jht at *
  generalize jh (CmL.joinO ht h vs hu k us) h = jk at *
  generalize jl (CmL.joinO ht h vs hu k us) = jv at *
  generalize (CmL.joinO ht h vs hu k us).1 = je at *
  obtain ⟨an, han⟩ : ∃ z, av.length = z := ⟨_, rfl⟩
  obtain ⟨jn, hjn⟩ : ∃ z, jv.length = z := ⟨_, rfl⟩
  rw [han] at havl
  rw [hjn] at hjvl
  have HAN := WirS.hide han
  have HJN0 := WirS.hide hjn
  have HAVL := WirS.hide havl
  have HJVL := WirS.hide hjvl
  have HAKL := WirS.hide hakl
  have HJKL := WirS.hide hjkl
  have HAD := WirS.hide hAD
  have HRA := WirS.hide hRA
  have HJN := WirS.hide hJN
  have HRJ := WirS.hide hRJ
  clear hAD hRA hJN hRJ hah hak hav hakl havl hjkl hjvl han hjn
  clear hl kl hv hw hn hm hvo
  go_enter Try.func14, Try.ntmps14
  go_upto_region 0 with fail
  refine wp_region_lit ?_
  refine sV (.pointer (some ⟨w.heap.size, 0, none⟩)) (w.alloc (.cells (ccl ht h (.slice a n c)).toArray TC)) (by kernel_rfl) (by kernel_rfl) ?_
  simp only [Act.put, List.setIfInBounds_toArray, List.set_cons_succ, List.set_cons_zero]
  have hbX := bag_box (w0 := w) (T := TC) (cs := (ccl ht h (.slice a n c))) (X := w.heap.size) (Bag.nil (Below.refl _ _)) rfl (w' := w.alloc (.cells (ccl ht h (.slice a n c)).toArray TC)) (At.new _ _ _) (Below.alloc (Below.refl _ _) (Nat.le_refl _) _)
  obtain ⟨X, eX⟩ : ∃ A, w.heap.size = A := ⟨_, rfl⟩
  rw [eX] at hbX ⊢
  clear eX
  generalize World.alloc w _ = x0 at *
  refine sV (.pointer (some ⟨x0.heap.size, 0, none⟩)) (x0.alloc (.cells (ccl hu k (.slice b m d)).toArray TC)) (by kernel_rfl) (by kernel_rfl) ?_
  simp only [Act.put, List.setIfInBounds_toArray, List.set_cons_succ, List.set_cons_zero]
  obtain ⟨Y, eY⟩ : ∃ A, x0.heap.size = A := ⟨_, rfl⟩
  have hbY := bag_box (T := TC) (cs := (ccl hu k (.slice b m d))) (X := Y) hbX eY.symm (w' := x0.alloc (.cells (ccl hu k (.slice b m d)).toArray TC)) (by rw [← eY]; exact At.new _ _ _) (Below.alloc (Below.refl _ _) (Nat.le_refl _) _)
  rw [eY]
  clear eY
  generalize World.alloc x0 _ = x1 at *
  refine sV (.pointer (some ⟨x1.heap.size, 0, none⟩)) (x1.alloc (.cells v.cells.toArray TV)) (by kernel_rfl) (by kernel_rfl) ?_
  simp only [Act.put, List.setIfInBounds_toArray, List.set_cons_succ, List.set_cons_zero]
  obtain ⟨V, eV⟩ : ∃ A, x1.heap.size = A := ⟨_, rfl⟩
  have hbV := bag_box (T := TV) (cs := v.cells) (X := V) hbY eV.symm (w' := x1.alloc (.cells v.cells.toArray TV)) (by rw [← eV]; exact At.new _ _ _) (Below.alloc (Below.refl _ _) (Nat.le_refl _) _)
  rw [eV]
  clear eV
  generalize World.alloc x1 _ = x2 at *
  have H2 := WirS.hide hbV
  clear hbV hbY hbX
  go_upto_region 1 with fail
  refine wp_region_lit ?_
  refine sL (by kernel_rfl) _ _ (by rfl) _ (by kernel_rfl) H2.out.drop.drop.head _ _ UC rfl (by kernel_rfl) (by rw [ccl_len _ _ _ HL.out]) ?_
  simp only [Act.put, List.setIfInBounds_toArray, List.set_cons_succ, List.set_cons_zero]
  refine sC (R := fun w' => Below x2.heap.size x2 w') (by kernel_rfl) (by kernel_rfl) (HLA.out x2) ?_
  rintro x3 hb
  simp only [Act.put, List.setIfInBounds_toArray, List.set_cons_succ, List.set_cons_zero]
  have H3 := WirS.hide (H2.out.more hb)
  clear hb H2
  refine sV (.bool false) (x3) (by kernel_rfl) (by kernel_rfl) ?_
  simp only [Act.put, List.setIfInBounds_toArray, List.set_cons_succ, List.set_cons_zero]
  refine sL (by kernel_rfl) _ _ (by rfl) _ (by kernel_rfl) H3.out.drop.head _ _ UC rfl (by kernel_rfl) (by rw [ccl_len _ _ _ HK.out]) ?_
  simp only [Act.put, List.setIfInBounds_toArray, List.set_cons_succ, List.set_cons_zero]
  refine sC (R := fun w' => Below x3.heap.size x3 w') (by kernel_rfl) (by kernel_rfl) (HLB.out x3) ?_
  rintro x4 hb
  simp only [Act.put, List.setIfInBounds_toArray, List.set_cons_succ, List.set_cons_zero]
  have H4 := WirS.hide (H3.out.more hb)
  clear hb H3
  refine sV (.bool false) (x4) (by kernel_rfl) (by kernel_rfl) ?_
  simp only [Act.put, List.setIfInBounds_toArray, List.set_cons_succ, List.set_cons_zero]
  go_upto_region 3 with fail
  have HSH := WirS.hide (fun (U : World) (hX : At U X TC (ccl ht h (.slice a n c))) (hY : At U Y TC (ccl hu k (.slice b m d))) => (show U.rangeAt X 0 (ccl ht h (.slice a n c)) ∧ U.rangeAt Y 0 (ccl hu k (.slice b m d)) from ⟨range_from hX (fun j u hj => by rw [Nat.zero_add]; exact hj), range_from hY (fun j u hj => by rw [Nat.zero_add]; exact hj)⟩))
  go_cut [7, 8] (fun p q wx => ∃ (C D : Nat) (ca : Option Addr) (cc : Nat) (da : Option Addr) (dc : Nat), p = .pointer (some ⟨C, 0, none⟩) ∧ q = .pointer (some ⟨D, 0, none⟩) ∧ Bag w wx [box TC C (ccl ht h (.slice ca n cc)), box TC D (ccl hu k (.slice da m dc)), ownt (.slice ca n cc) vs, ownt (.slice da m dc) us, box TV V v.cells, box TC Y (ccl hu k (.slice b m d)), box TC X (ccl ht h (.slice a n c))])
  case first =>
    have HZ : Hid (Bag w x4.drew [box TV V v.cells, box TC Y (ccl hu k (.slice b m d)), box TC X (ccl ht h (.slice a n c))]) := WirS.hide (H4.out.more (below_drewN (Below.refl _ _) 1))
    clear H4
    refine wp_region_noPanic ?_
    refine wp_region_held_drew (S := (fun U => U.rangeAt X 0 (ccl ht h (.slice a n c)) ∧ U.rangeAt Y 0 (ccl hu k (.slice b m d)))) (by kernel_rfl) (HSH.out _ (HZ.out.all (box TC X (ccl ht h (.slice a n c))) (by simp)).1 (HZ.out.all (box TC Y (ccl hu k (.slice b m d))) (by simp)).1) (fun hHeld => ?_)
    generalize World.drew x4 = z0 at *
    refine' wpAnyH_take (i := 0) (oi := _) (v := .agg ((ccl ht h (.slice a n c))).toArray) rfl (by kernel_rfl) (by kernel_rfl) (by kernel_rfl) (fun _ _ _ h => h) (yieldsIf_load_mid (by kernel_rfl) TC (.tmp 3) (by kernel_rfl) X 0 (by kernel_rfl) ((ccl ht h (.slice a n c))) _ (fun _ h => h.1) UC (by kernel_rfl) ((by rw [ccl_len _ _ _ HL.out]; kernel_rfl))) (by assumption) ?rest0
    case rest0 =>
    try simp only [List.getElem_toArray, List.getElem_cons_zero, Act.put, List.setIfInBounds_toArray, List.set_cons_zero, List.set_cons_succ]
    refine' wpAnyH_take (i := 2) (oi := _) (v := .agg ((ccl hu k (.slice b m d))).toArray) rfl (by kernel_rfl) (by kernel_rfl) (by kernel_rfl) (fun _ _ _ h => h) (yieldsIf_load_mid (by kernel_rfl) TC (.tmp 4) (by kernel_rfl) Y 0 (by kernel_rfl) ((ccl hu k (.slice b m d))) _ (fun _ h => h.2) UC (by kernel_rfl) ((by rw [ccl_len _ _ _ HK.out]; kernel_rfl))) (by assumption) ?rest2
    case rest2 =>
    try simp only [List.getElem_toArray, List.getElem_cons_succ, List.getElem_cons_zero, Act.put, List.setIfInBounds_toArray, List.set_cons_zero, List.set_cons_succ]
    refine wpAnyH_ready (rs := [1, 4, 5]) (by kernel_rfl) (by simp) ?_
    refine AllReadyH.cons rfl (fun K hK => ?_) (AllReadyH.cons rfl (fun K hK => ?_) (AllReadyH.cons rfl (fun K hK => ?_) AllReadyH.nil))
    · rw [if_pos (by kernel_rfl)]
      refine stepCallX (HCA.out z0 HZ.out.low) (by kernel_rfl) ?_
      rintro e u1 ⟨ca, cc, rfl, ho, hnb, hb⟩
      refine ⟨_, rfl, ?_⟩
      try simp only [List.getElem_toArray, List.getElem_cons_succ, List.getElem_cons_zero, Act.put, List.setIfInBounds_toArray, List.set_cons_zero, List.set_cons_succ]
      have B1 := WirS.hide (bag_ownt HZ.out ho hnb hb)
      clear ho hnb hb HZ
      refine hK.out _ _ (HSH.out _ (B1.out.all (box TC X (ccl ht h (.slice a n c))) (by simp)).1 (B1.out.all (box TC Y (ccl hu k (.slice b m d))) (by simp)).1) (fun hHeld => ?_)
      clear hK K
      refine wpAnyH_ready (rs := [3, 4, 5]) (by kernel_rfl) (by simp) ?_
      refine AllReadyH.cons rfl (fun K hK => ?_) (AllReadyH.cons rfl (fun K hK => ?_) (AllReadyH.cons rfl (fun K hK => ?_) AllReadyH.nil))
      · rw [if_pos (by kernel_rfl)]
        refine stepCallX (HCB.out u1 B1.out.low) (by kernel_rfl) ?_
        rintro e u2 ⟨da, dc, rfl, ho, hnb, hb⟩
        refine ⟨_, rfl, ?_⟩
        try simp only [List.getElem_toArray, List.getElem_cons_succ, List.getElem_cons_zero, Act.put, List.setIfInBounds_toArray, List.set_cons_zero, List.set_cons_succ]
        have B2 := WirS.hide (bag_ownt B1.out ho hnb hb)
        clear ho hnb hb B1
        refine hK.out _ _ (HSH.out _ (B2.out.all (box TC X (ccl ht h (.slice a n c))) (by simp)).1 (B2.out.all (box TC Y (ccl hu k (.slice b m d))) (by simp)).1) (fun hHeld => ?_)
        clear hK K
        refine wpAnyH_ready (rs := [4, 5]) (by kernel_rfl) (by simp) ?_
        refine AllReadyH.cons rfl (fun K hK => ?_) (AllReadyH.cons rfl (fun K hK => ?_) AllReadyH.nil)
        · rw [if_pos (by kernel_rfl)]
          refine wp_value (w' := u2.alloc (.cells zcm.toArray TC)) (.pointer (some ⟨u2.heap.size, 0, none⟩)) (by kernel_rfl) ?_
          try simp only [List.getElem_toArray, List.getElem_cons_succ, List.getElem_cons_zero, Act.put, List.setIfInBounds_toArray, List.set_cons_zero, List.set_cons_succ]
          obtain ⟨C, eC⟩ : ∃ A, u2.heap.size = A := ⟨_, rfl⟩
          have hbC := bag_box (T := TC) (cs := zcm) (X := C) B2.out eC.symm (w' := u2.alloc (.cells zcm.toArray TC)) (by rw [← eC]; exact At.new _ _ _) (Below.alloc (Below.refl _ _) (Nat.le_refl _) _)
          rw [eC]
          clear eC
          generalize World.alloc u2 _ = u3 at *
          have B3 := WirS.hide hbC
          clear hbC B2
          refine hK.out _ _ (HSH.out _ (B3.out.all (box TC X (ccl ht h (.slice a n c))) (by simp)).1 (B3.out.all (box TC Y (ccl hu k (.slice b m d))) (by simp)).1) (fun hHeld => ?_)
          clear hK K
          refine wpAnyH_ready (rs := [5]) (by kernel_rfl) (by simp) ?_
          refine AllReadyH.cons rfl (fun K hK => ?_) AllReadyH.nil
          rw [if_pos (by kernel_rfl)]
          refine wp_value (w' := u3.alloc (.cells zcm.toArray TC)) (.pointer (some ⟨u3.heap.size, 0, none⟩)) (by kernel_rfl) ?_
          try simp only [List.getElem_toArray, List.getElem_cons_succ, List.getElem_cons_zero, Act.put, List.setIfInBounds_toArray, List.set_cons_zero, List.set_cons_succ]
          obtain ⟨D, eD⟩ : ∃ A, u3.heap.size = A := ⟨_, rfl⟩
          have hbD := bag_box (T := TC) (cs := zcm) (X := D) B3.out eD.symm (w' := u3.alloc (.cells zcm.toArray TC)) (by rw [← eD]; exact At.new _ _ _) (Below.alloc (Below.refl _ _) (Nat.le_refl _) _)
          rw [eD]
          clear eD
          generalize World.alloc u3 _ = u4 at *
          have B4 := WirS.hide hbD
          clear hbD B3
          refine hK.out _ _ (HSH.out _ (B4.out.all (box TC X (ccl ht h (.slice a n c))) (by simp)).1 (B4.out.all (box TC Y (ccl hu k (.slice b m d))) (by simp)).1) (fun hHeld => ?_)
          clear hK K
          refine wpAnyH_ready (rs := [6]) (by kernel_rfl) (by simp) ?_
          refine AllReadyH.cons rfl (fun K hK => ?_) AllReadyH.nil
          rw [if_pos (by kernel_rfl)]
          have G6a := WirS.hide (B4.out.perm (show [box TC D zcm, box TC C zcm, ownt (.slice da m dc) us, ownt (.slice ca n cc) vs, box TV V v.cells, box TC Y (ccl hu k (.slice b m d)), box TC X (ccl ht h (.slice a n c))].Perm [box TC C zcm, box TC D zcm, ownt (.slice da m dc) us, ownt (.slice ca n cc) vs, box TV V v.cells, box TC Y (ccl hu k (.slice b m d)), box TC X (ccl ht h (.slice a n c))] from ((List.perm_middle (l₁ := [box TC D zcm])).trans (.cons _ ((List.perm_middle (l₁ := [])).trans (.cons _ ((List.perm_middle (l₁ := [])).trans (.cons _ ((List.perm_middle (l₁ := [])).trans (.cons _ ((List.perm_middle (l₁ := [])).trans (.cons _ ((List.perm_middle (l₁ := [])).trans (.cons _ ((List.perm_middle (l₁ := [])).trans (.cons _ (.refl _)))))))))))))))))
          clear B4
          refine wp_store_row TC (.tmp 7) (.tmp 26) (by kernel_rfl) C (ccl ht h (.slice ca n cc)).toArray (by kernel_rfl) (by kernel_rfl) TC zcm.toArray G6a.out.head (by rw [List.size_toArray, ccl_len _ _ _ HL.out]; kernel_rfl) (by rw [List.size_toArray, List.size_toArray, ccl_len _ _ _ HL.out]; rfl) (one_ccl _ _ _ _ _) ?_
          have G6 := WirS.hide (bag_row G6a.out (ccl ht h (.slice ca n cc)))
          clear G6a
          refine hK.out _ _ (HSH.out _ (G6.out.all (box TC X (ccl ht h (.slice a n c))) (by simp)).1 (G6.out.all (box TC Y (ccl hu k (.slice b m d))) (by simp)).1) (fun hHeld => ?_)
          clear hK K
          try simp only [Act.put]
          generalize World.setRow u4 C _ = y6 at *
          refine wpAnyH_ready (rs := [7]) (by kernel_rfl) (by simp) ?_
          refine AllReadyH.cons rfl (fun K hK => ?_) AllReadyH.nil
          rw [if_pos (by kernel_rfl)]
          have G7a := WirS.hide (G6.out.perm (show [box TC C (ccl ht h (.slice ca n cc)), box TC D zcm, ownt (.slice da m dc) us, ownt (.slice ca n cc) vs, box TV V v.cells, box TC Y (ccl hu k (.slice b m d)), box TC X (ccl ht h (.slice a n c))].Perm [box TC D zcm, box TC C (ccl ht h (.slice ca n cc)), ownt (.slice da m dc) us, ownt (.slice ca n cc) vs, box TV V v.cells, box TC Y (ccl hu k (.slice b m d)), box TC X (ccl ht h (.slice a n c))] from ((List.perm_middle (l₁ := [box TC C (ccl ht h (.slice ca n cc))])).trans (.cons _ ((List.perm_middle (l₁ := [])).trans (.cons _ ((List.perm_middle (l₁ := [])).trans (.cons _ ((List.perm_middle (l₁ := [])).trans (.cons _ ((List.perm_middle (l₁ := [])).trans (.cons _ ((List.perm_middle (l₁ := [])).trans (.cons _ ((List.perm_middle (l₁ := [])).trans (.cons _ (.refl _)))))))))))))))))
          clear G6
          refine wp_store_row TC (.tmp 8) (.tmp 28) (by kernel_rfl) D (ccl hu k (.slice da m dc)).toArray (by kernel_rfl) (by kernel_rfl) TC zcm.toArray G7a.out.head (by rw [List.size_toArray, ccl_len _ _ _ HK.out]; kernel_rfl) (by rw [List.size_toArray, List.size_toArray, ccl_len _ _ _ HK.out]; rfl) (one_ccl _ _ _ _ _) ?_
          have G7 := WirS.hide (bag_row G7a.out (ccl hu k (.slice da m dc)))
          clear G7a
          refine hK.out _ _ (HSH.out _ (G7.out.all (box TC X (ccl ht h (.slice a n c))) (by simp)).1 (G7.out.all (box TC Y (ccl hu k (.slice b m d))) (by simp)).1) (fun hHeld => ?_)
          clear hK K
          try simp only [Act.put]
          generalize World.setRow y6 D _ = y7 at *
          refine wpAnyH_done (by kernel_rfl) ?_ _
          refine NoPanic.normal ?_
          clear hHeld
          go_wp2_with fail
          go_meet
          exact ⟨C, D, ca, cc, da, dc, rfl, rfl, G7.out.perm (show [box TC D (ccl hu k (.slice da m dc)), box TC C (ccl ht h (.slice ca n cc)), ownt (.slice da m dc) us, ownt (.slice ca n cc) vs, box TV V v.cells, box TC Y (ccl hu k (.slice b m d)), box TC X (ccl ht h (.slice a n c))].Perm [box TC C (ccl ht h (.slice ca n cc)), box TC D (ccl hu k (.slice da m dc)), ownt (.slice ca n cc) vs, ownt (.slice da m dc) us, box TV V v.cells, box TC Y (ccl hu k (.slice b m d)), box TC X (ccl ht h (.slice a n c))] from ((List.perm_middle (l₁ := [box TC D (ccl hu k (.slice da m dc))])).trans (.cons _ ((List.perm_middle (l₁ := [])).trans (.cons _ ((List.perm_middle (l₁ := [ownt (.slice da m dc) us])).trans (.cons _ ((List.perm_middle (l₁ := [])).trans (.cons _ ((List.perm_middle (l₁ := [])).trans (.cons _ ((List.perm_middle (l₁ := [])).trans (.cons _ ((List.perm_middle (l₁ := [])).trans (.cons _ (.refl _))))))))))))))))⟩
        · rw [if_pos (by kernel_rfl)]
          refine wp_value (w' := u2.alloc (.cells zcm.toArray TC)) (.pointer (some ⟨u2.heap.size, 0, none⟩)) (by kernel_rfl) ?_
          try simp only [List.getElem_toArray, List.getElem_cons_succ, List.getElem_cons_zero, Act.put, List.setIfInBounds_toArray, List.set_cons_zero, List.set_cons_succ]
          obtain ⟨D, eD⟩ : ∃ A, u2.heap.size = A := ⟨_, rfl⟩
          have hbD := bag_box (T := TC) (cs := zcm) (X := D) B2.out eD.symm (w' := u2.alloc (.cells zcm.toArray TC)) (by rw [← eD]; exact At.new _ _ _) (Below.alloc (Below.refl _ _) (Nat.le_refl _) _)
          rw [eD]
          clear eD
          generalize World.alloc u2 _ = u3 at *
          have B3 := WirS.hide hbD
          clear hbD B2
          refine hK.out _ _ (HSH.out _ (B3.out.all (box TC X (ccl ht h (.slice a n c))) (by simp)).1 (B3.out.all (box TC Y (ccl hu k (.slice b m d))) (by simp)).1) (fun hHeld => ?_)
          clear hK K
          refine wpAnyH_ready (rs := [4]) (by kernel_rfl) (by simp) ?_
          refine AllReadyH.cons rfl (fun K hK => ?_) AllReadyH.nil
          rw [if_pos (by kernel_rfl)]
          refine wp_value (w' := u3.alloc (.cells zcm.toArray TC)) (.pointer (some ⟨u3.heap.size, 0, none⟩)) (by kernel_rfl) ?_
          try simp only [List.getElem_toArray, List.getElem_cons_succ, List.getElem_cons_zero, Act.put, List.setIfInBounds_toArray, List.set_cons_zero, List.set_cons_succ]
          obtain ⟨C, eC⟩ : ∃ A, u3.heap.size = A := ⟨_, rfl⟩
          have hbC := bag_box (T := TC) (cs := zcm) (X := C) B3.out eC.symm (w' := u3.alloc (.cells zcm.toArray TC)) (by rw [← eC]; exact At.new _ _ _) (Below.alloc (Below.refl _ _) (Nat.le_refl _) _)
          rw [eC]
          clear eC
          generalize World.alloc u3 _ = u4 at *
          have B4 := WirS.hide hbC
          clear hbC B3
          refine hK.out _ _ (HSH.out _ (B4.out.all (box TC X (ccl ht h (.slice a n c))) (by simp)).1 (B4.out.all (box TC Y (ccl hu k (.slice b m d))) (by simp)).1) (fun hHeld => ?_)
          clear hK K
          refine wpAnyH_ready (rs := [6]) (by kernel_rfl) (by simp) ?_
          refine AllReadyH.cons rfl (fun K hK => ?_) AllReadyH.nil
          rw [if_pos (by kernel_rfl)]
          have G6a := WirS.hide (B4.out.perm (show [box TC C zcm, box TC D zcm, ownt (.slice da m dc) us, ownt (.slice ca n cc) vs, box TV V v.cells, box TC Y (ccl hu k (.slice b m d)), box TC X (ccl ht h (.slice a n c))].Perm [box TC C zcm, box TC D zcm, ownt (.slice da m dc) us, ownt (.slice ca n cc) vs, box TV V v.cells, box TC Y (ccl hu k (.slice b m d)), box TC X (ccl ht h (.slice a n c))] from ((List.perm_middle (l₁ := [])).trans (.cons _ ((List.perm_middle (l₁ := [])).trans (.cons _ ((List.perm_middle (l₁ := [])).trans (.cons _ ((List.perm_middle (l₁ := [])).trans (.cons _ ((List.perm_middle (l₁ := [])).trans (.cons _ ((List.perm_middle (l₁ := [])).trans (.cons _ ((List.perm_middle (l₁ := [])).trans (.cons _ (.refl _)))))))))))))))))
          clear B4
          refine wp_store_row TC (.tmp 7) (.tmp 26) (by kernel_rfl) C (ccl ht h (.slice ca n cc)).toArray (by kernel_rfl) (by kernel_rfl) TC zcm.toArray G6a.out.head (by rw [List.size_toArray, ccl_len _ _ _ HL.out]; kernel_rfl) (by rw [List.size_toArray, List.size_toArray, ccl_len _ _ _ HL.out]; rfl) (one_ccl _ _ _ _ _) ?_
          have G6 := WirS.hide (bag_row G6a.out (ccl ht h (.slice ca n cc)))
          clear G6a
          refine hK.out _ _ (HSH.out _ (G6.out.all (box TC X (ccl ht h (.slice a n c))) (by simp)).1 (G6.out.all (box TC Y (ccl hu k (.slice b m d))) (by simp)).1) (fun hHeld => ?_)
          clear hK K
          try simp only [Act.put]
          generalize World.setRow u4 C _ = y6 at *
          refine wpAnyH_ready (rs := [7]) (by kernel_rfl) (by simp) ?_
          refine AllReadyH.cons rfl (fun K hK => ?_) AllReadyH.nil
          rw [if_pos (by kernel_rfl)]
          have G7a := WirS.hide (G6.out.perm (show [box TC C (ccl ht h (.slice ca n cc)), box TC D zcm, ownt (.slice da m dc) us, ownt (.slice ca n cc) vs, box TV V v.cells, box TC Y (ccl hu k (.slice b m d)), box TC X (ccl ht h (.slice a n c))].Perm [box TC D zcm, box TC C (ccl ht h (.slice ca n cc)), ownt (.slice da m dc) us, ownt (.slice ca n cc) vs, box TV V v.cells, box TC Y (ccl hu k (.slice b m d)), box TC X (ccl ht h (.slice a n c))] from ((List.perm_middle (l₁ := [box TC C (ccl ht h (.slice ca n cc))])).trans (.cons _ ((List.perm_middle (l₁ := [])).trans (.cons _ ((List.perm_middle (l₁ := [])).trans (.cons _ ((List.perm_middle (l₁ := [])).trans (.cons _ ((List.perm_middle (l₁ := [])).trans (.cons _ ((List.perm_middle (l₁ := [])).trans (.cons _ ((List.perm_middle (l₁ := [])).trans (.cons _ (.refl _)))))))))))))))))
          clear G6
          refine wp_store_row TC (.tmp 8) (.tmp 28) (by kernel_rfl) D (ccl hu k (.slice da m dc)).toArray (by kernel_rfl) (by kernel_rfl) TC zcm.toArray G7a.out.head (by rw [List.size_toArray, ccl_len _ _ _ HK.out]; kernel_rfl) (by rw [List.size_toArray, List.size_toArray, ccl_len _ _ _ HK.out]; rfl) (one_ccl _ _ _ _ _) ?_
          have G7 := WirS.hide (bag_row G7a.out (ccl hu k (.slice da m dc)))
          clear G7a
          refine hK.out _ _ (HSH.out _ (G7.out.all (box TC X (ccl ht h (.slice a n c))) (by simp)).1 (G7.out.all (box TC Y (ccl hu k (.slice b m d))) (by simp)).1) (fun hHeld => ?_)
          clear hK K
          try simp only [Act.put]
          generalize World.setRow y6 D _ = y7 at *
          refine wpAnyH_done (by kernel_rfl) ?_ _
          refine NoPanic.normal ?_
          clear hHeld
          go_wp2_with fail
          go_meet
          exact ⟨C, D, ca, cc, da, dc, rfl, rfl, G7.out.perm (show [box TC D (ccl hu k (.slice da m dc)), box TC C (ccl ht h (.slice ca n cc)), ownt (.slice da m dc) us, ownt (.slice ca n cc) vs, box TV V v.cells, box TC Y (ccl hu k (.slice b m d)), box TC X (ccl ht h (.slice a n c))].Perm [box TC C (ccl ht h (.slice ca n cc)), box TC D (ccl hu k (.slice da m dc)), ownt (.slice ca n cc) vs, ownt (.slice da m dc) us, box TV V v.cells, box TC Y (ccl hu k (.slice b m d)), box TC X (ccl ht h (.slice a n c))] from ((List.perm_middle (l₁ := [box TC D (ccl hu k (.slice da m dc))])).trans (.cons _ ((List.perm_middle (l₁ := [])).trans (.cons _ ((List.perm_middle (l₁ := [ownt (.slice da m dc) us])).trans (.cons _ ((List.perm_middle (l₁ := [])).trans (.cons _ ((List.perm_middle (l₁ := [])).trans (.cons _ ((List.perm_middle (l₁ := [])).trans (.cons _ ((List.perm_middle (l₁ := [])).trans (.cons _ (.refl _))))))))))))))))⟩
      · rw [if_pos (by kernel_rfl)]
        refine wp_value (w' := u1.alloc (.cells zcm.toArray TC)) (.pointer (some ⟨u1.heap.size, 0, none⟩)) (by kernel_rfl) ?_
        try simp only [List.getElem_toArray, List.getElem_cons_succ, List.getElem_cons_zero, Act.put, List.setIfInBounds_toArray, List.set_cons_zero, List.set_cons_succ]
        obtain ⟨C, eC⟩ : ∃ A, u1.heap.size = A := ⟨_, rfl⟩
        have hbC := bag_box (T := TC) (cs := zcm) (X := C) B1.out eC.symm (w' := u1.alloc (.cells zcm.toArray TC)) (by rw [← eC]; exact At.new _ _ _) (Below.alloc (Below.refl _ _) (Nat.le_refl _) _)
        rw [eC]
        clear eC
        generalize World.alloc u1 _ = u2 at *
        have B2 := WirS.hide hbC
        clear hbC B1
        refine hK.out _ _ (HSH.out _ (B2.out.all (box TC X (ccl ht h (.slice a n c))) (by simp)).1 (B2.out.all (box TC Y (ccl hu k (.slice b m d))) (by simp)).1) (fun hHeld => ?_)
        clear hK K
        refine wpAnyH_ready (rs := [3, 5]) (by kernel_rfl) (by simp) ?_
        refine AllReadyH.cons rfl (fun K hK => ?_) (AllReadyH.cons rfl (fun K hK => ?_) AllReadyH.nil)
        · rw [if_pos (by kernel_rfl)]
          refine stepCallX (HCB.out u2 B2.out.low) (by kernel_rfl) ?_
          rintro e u3 ⟨da, dc, rfl, ho, hnb, hb⟩
          refine ⟨_, rfl, ?_⟩
          try simp only [List.getElem_toArray, List.getElem_cons_succ, List.getElem_cons_zero, Act.put, List.setIfInBounds_toArray, List.set_cons_zero, List.set_cons_succ]
          have B3 := WirS.hide (bag_ownt B2.out ho hnb hb)
          clear ho hnb hb B2
          refine hK.out _ _ (HSH.out _ (B3.out.all (box TC X (ccl ht h (.slice a n c))) (by simp)).1 (B3.out.all (box TC Y (ccl hu k (.slice b m d))) (by simp)).1) (fun hHeld => ?_)
          clear hK K
          refine wpAnyH_ready (rs := [5]) (by kernel_rfl) (by simp) ?_
          refine AllReadyH.cons rfl (fun K hK => ?_) AllReadyH.nil
          rw [if_pos (by kernel_rfl)]
          refine wp_value (w' := u3.alloc (.cells zcm.toArray TC)) (.pointer (some ⟨u3.heap.size, 0, none⟩)) (by kernel_rfl) ?_
          try simp only [List.getElem_toArray, List.getElem_cons_succ, List.getElem_cons_zero, Act.put, List.setIfInBounds_toArray, List.set_cons_zero, List.set_cons_succ]
          obtain ⟨D, eD⟩ : ∃ A, u3.heap.size = A := ⟨_, rfl⟩
          have hbD := bag_box (T := TC) (cs := zcm) (X := D) B3.out eD.symm (w' := u3.alloc (.cells zcm.toArray TC)) (by rw [← eD]; exact At.new _ _ _) (Below.alloc (Below.refl _ _) (Nat.le_refl _) _)
          rw [eD]
          clear eD
          generalize World.alloc u3 _ = u4 at *
          have B4 := WirS.hide hbD
          clear hbD B3
          refine hK.out _ _ (HSH.out _ (B4.out.all (box TC X (ccl ht h (.slice a n c))) (by simp)).1 (B4.out.all (box TC Y (ccl hu k (.slice b m d))) (by simp)).1) (fun hHeld => ?_)
          clear hK K
          refine wpAnyH_ready (rs := [6]) (by kernel_rfl) (by simp) ?_
          refine AllReadyH.cons rfl (fun K hK => ?_) AllReadyH.nil
          rw [if_pos (by kernel_rfl)]
          have G6a := WirS.hide (B4.out.perm (show [box TC D zcm, ownt (.slice da m dc) us, box TC C zcm, ownt (.slice ca n cc) vs, box TV V v.cells, box TC Y (ccl hu k (.slice b m d)), box TC X (ccl ht h (.slice a n c))].Perm [box TC C zcm, box TC D zcm, ownt (.slice da m dc) us, ownt (.slice ca n cc) vs, box TV V v.cells, box TC Y (ccl hu k (.slice b m d)), box TC X (ccl ht h (.slice a n c))] from ((List.perm_middle (l₁ := [box TC D zcm, ownt (.slice da m dc) us])).trans (.cons _ ((List.perm_middle (l₁ := [])).trans (.cons _ ((List.perm_middle (l₁ := [])).trans (.cons _ ((List.perm_middle (l₁ := [])).trans (.cons _ ((List.perm_middle (l₁ := [])).trans (.cons _ ((List.perm_middle (l₁ := [])).trans (.cons _ ((List.perm_middle (l₁ := [])).trans (.cons _ (.refl _)))))))))))))))))
          clear B4
          refine wp_store_row TC (.tmp 7) (.tmp 26) (by kernel_rfl) C (ccl ht h (.slice ca n cc)).toArray (by kernel_rfl) (by kernel_rfl) TC zcm.toArray G6a.out.head (by rw [List.size_toArray, ccl_len _ _ _ HL.out]; kernel_rfl) (by rw [List.size_toArray, List.size_toArray, ccl_len _ _ _ HL.out]; rfl) (one_ccl _ _ _ _ _) ?_
          have G6 := WirS.hide (bag_row G6a.out (ccl ht h (.slice ca n cc)))
          clear G6a
          refine hK.out _ _ (HSH.out _ (G6.out.all (box TC X (ccl ht h (.slice a n c))) (by simp)).1 (G6.out.all (box TC Y (ccl hu k (.slice b m d))) (by simp)).1) (fun hHeld => ?_)
          clear hK K
          try simp only [Act.put]
          generalize World.setRow u4 C _ = y6 at *
          refine wpAnyH_ready (rs := [7]) (by kernel_rfl) (by simp) ?_
          refine AllReadyH.cons rfl (fun K hK => ?_) AllReadyH.nil
          rw [if_pos (by kernel_rfl)]
          have G7a := WirS.hide (G6.out.perm (show [box TC C (ccl ht h (.slice ca n cc)), box TC D zcm, ownt (.slice da m dc) us, ownt (.slice ca n cc) vs, box TV V v.cells, box TC Y (ccl hu k (.slice b m d)), box TC X (ccl ht h (.slice a n c))].Perm [box TC D zcm, box TC C (ccl ht h (.slice ca n cc)), ownt (.slice da m dc) us, ownt (.slice ca n cc) vs, box TV V v.cells, box TC Y (ccl hu k (.slice b m d)), box TC X (ccl ht h (.slice a n c))] from ((List.perm_middle (l₁ := [box TC C (ccl ht h (.slice ca n cc))])).trans (.cons _ ((List.perm_middle (l₁ := [])).trans (.cons _ ((List.perm_middle (l₁ := [])).trans (.cons _ ((List.perm_middle (l₁ := [])).trans (.cons _ ((List.perm_middle (l₁ := [])).trans (.cons _ ((List.perm_middle (l₁ := [])).trans (.cons _ ((List.perm_middle (l₁ := [])).trans (.cons _ (.refl _)))))))))))))))))
          clear G6
          refine wp_store_row TC (.tmp 8) (.tmp 28) (by kernel_rfl) D (ccl hu k (.slice da m dc)).toArray (by kernel_rfl) (by kernel_rfl) TC zcm.toArray G7a.out.head (by rw [List.size_toArray, ccl_len _ _ _ HK.out]; kernel_rfl) (by rw [List.size_toArray, List.size_toArray, ccl_len _ _ _ HK.out]; rfl) (one_ccl _ _ _ _ _) ?_
          have G7 := WirS.hide (bag_row G7a.out (ccl hu k (.slice da m dc)))
          clear G7a
          refine hK.out _ _ (HSH.out _ (G7.out.all (box TC X (ccl ht h (.slice a n c))) (by simp)).1 (G7.out.all (box TC Y (ccl hu k (.slice b m d))) (by simp)).1) (fun hHeld => ?_)
          clear hK K
          try simp only [Act.put]
          generalize World.setRow y6 D _ = y7 at *
          refine wpAnyH_done (by kernel_rfl) ?_ _
          refine NoPanic.normal ?_
          clear hHeld
          go_wp2_with fail
          go_meet
          exact ⟨C, D, ca, cc, da, dc, rfl, rfl, G7.out.perm (show [box TC D (ccl hu k (.slice da m dc)), box TC C (ccl ht h (.slice ca n cc)), ownt (.slice da m dc) us, ownt (.slice ca n cc) vs, box TV V v.cells, box TC Y (ccl hu k (.slice b m d)), box TC X (ccl ht h (.slice a n c))].Perm [box TC C (ccl ht h (.slice ca n cc)), box TC D (ccl hu k (.slice da m dc)), ownt (.slice ca n cc) vs, ownt (.slice da m dc) us, box TV V v.cells, box TC Y (ccl hu k (.slice b m d)), box TC X (ccl ht h (.slice a n c))] from ((List.perm_middle (l₁ := [box TC D (ccl hu k (.slice da m dc))])).trans (.cons _ ((List.perm_middle (l₁ := [])).trans (.cons _ ((List.perm_middle (l₁ := [ownt (.slice da m dc) us])).trans (.cons _ ((List.perm_middle (l₁ := [])).trans (.cons _ ((List.perm_middle (l₁ := [])).trans (.cons _ ((List.perm_middle (l₁ := [])).trans (.cons _ ((List.perm_middle (l₁ := [])).trans (.cons _ (.refl _))))))))))))))))⟩
        · rw [if_pos (by kernel_rfl)]
          refine wp_value (w' := u2.alloc (.cells zcm.toArray TC)) (.pointer (some ⟨u2.heap.size, 0, none⟩)) (by kernel_rfl) ?_
          try simp only [List.getElem_toArray, List.getElem_cons_succ, List.getElem_cons_zero, Act.put, List.setIfInBounds_toArray, List.set_cons_zero, List.set_cons_succ]
          obtain ⟨D, eD⟩ : ∃ A, u2.heap.size = A := ⟨_, rfl⟩
          have hbD := bag_box (T := TC) (cs := zcm) (X := D) B2.out eD.symm (w' := u2.alloc (.cells zcm.toArray TC)) (by rw [← eD]; exact At.new _ _ _) (Below.alloc (Below.refl _ _) (Nat.le_refl _) _)
          rw [eD]
          clear eD
          generalize World.alloc u2 _ = u3 at *
          have B3 := WirS.hide hbD
          clear hbD B2
          refine hK.out _ _ (HSH.out _ (B3.out.all (box TC X (ccl ht h (.slice a n c))) (by simp)).1 (B3.out.all (box TC Y (ccl hu k (.slice b m d))) (by simp)).1) (fun hHeld => ?_)
          clear hK K
          refine wpAnyH_ready (rs := [3]) (by kernel_rfl) (by simp) ?_
          refine AllReadyH.cons rfl (fun K hK => ?_) AllReadyH.nil
          rw [if_pos (by kernel_rfl)]
          refine stepCallX (HCB.out u3 B3.out.low) (by kernel_rfl) ?_
          rintro e u4 ⟨da, dc, rfl, ho, hnb, hb⟩
          refine ⟨_, rfl, ?_⟩
          try simp only [List.getElem_toArray, List.getElem_cons_succ, List.getElem_cons_zero, Act.put, List.setIfInBounds_toArray, List.set_cons_zero, List.set_cons_succ]
          have B4 := WirS.hide (bag_ownt B3.out ho hnb hb)
          clear ho hnb hb B3
          refine hK.out _ _ (HSH.out _ (B4.out.all (box TC X (ccl ht h (.slice a n c))) (by simp)).1 (B4.out.all (box TC Y (ccl hu k (.slice b m d))) (by simp)).1) (fun hHeld => ?_)
          clear hK K
          refine wpAnyH_ready (rs := [6]) (by kernel_rfl) (by simp) ?_
          refine AllReadyH.cons rfl (fun K hK => ?_) AllReadyH.nil
          rw [if_pos (by kernel_rfl)]
          have G6a := WirS.hide (B4.out.perm (show [ownt (.slice da m dc) us, box TC D zcm, box TC C zcm, ownt (.slice ca n cc) vs, box TV V v.cells, box TC Y (ccl hu k (.slice b m d)), box TC X (ccl ht h (.slice a n c))].Perm [box TC C zcm, ownt (.slice da m dc) us, box TC D zcm, ownt (.slice ca n cc) vs, box TV V v.cells, box TC Y (ccl hu k (.slice b m d)), box TC X (ccl ht h (.slice a n c))] from ((List.perm_middle (l₁ := [ownt (.slice da m dc) us, box TC D zcm])).trans (.cons _ ((List.perm_middle (l₁ := [])).trans (.cons _ ((List.perm_middle (l₁ := [])).trans (.cons _ ((List.perm_middle (l₁ := [])).trans (.cons _ ((List.perm_middle (l₁ := [])).trans (.cons _ ((List.perm_middle (l₁ := [])).trans (.cons _ ((List.perm_middle (l₁ := [])).trans (.cons _ (.refl _)))))))))))))))))
          clear B4
          refine wp_store_row TC (.tmp 7) (.tmp 26) (by kernel_rfl) C (ccl ht h (.slice ca n cc)).toArray (by kernel_rfl) (by kernel_rfl) TC zcm.toArray G6a.out.head (by rw [List.size_toArray, ccl_len _ _ _ HL.out]; kernel_rfl) (by rw [List.size_toArray, List.size_toArray, ccl_len _ _ _ HL.out]; rfl) (one_ccl _ _ _ _ _) ?_
          have G6 := WirS.hide (bag_row G6a.out (ccl ht h (.slice ca n cc)))
          clear G6a
          refine hK.out _ _ (HSH.out _ (G6.out.all (box TC X (ccl ht h (.slice a n c))) (by simp)).1 (G6.out.all (box TC Y (ccl hu k (.slice b m d))) (by simp)).1) (fun hHeld => ?_)
          clear hK K
          try simp only [Act.put]
          generalize World.setRow u4 C _ = y6 at *
          refine wpAnyH_ready (rs := [7]) (by kernel_rfl) (by simp) ?_
          refine AllReadyH.cons rfl (fun K hK => ?_) AllReadyH.nil
          rw [if_pos (by kernel_rfl)]
          have G7a := WirS.hide (G6.out.perm (show [box TC C (ccl ht h (.slice ca n cc)), ownt (.slice da m dc) us, box TC D zcm, ownt (.slice ca n cc) vs, box TV V v.cells, box TC Y (ccl hu k (.slice b m d)), box TC X (ccl ht h (.slice a n c))].Perm [box TC D zcm, box TC C (ccl ht h (.slice ca n cc)), ownt (.slice da m dc) us, ownt (.slice ca n cc) vs, box TV V v.cells, box TC Y (ccl hu k (.slice b m d)), box TC X (ccl ht h (.slice a n c))] from ((List.perm_middle (l₁ := [box TC C (ccl ht h (.slice ca n cc)), ownt (.slice da m dc) us])).trans (.cons _ ((List.perm_middle (l₁ := [])).trans (.cons _ ((List.perm_middle (l₁ := [])).trans (.cons _ ((List.perm_middle (l₁ := [])).trans (.cons _ ((List.perm_middle (l₁ := [])).trans (.cons _ ((List.perm_middle (l₁ := [])).trans (.cons _ ((List.perm_middle (l₁ := [])).trans (.cons _ (.refl _)))))))))))))))))
          clear G6
          refine wp_store_row TC (.tmp 8) (.tmp 28) (by kernel_rfl) D (ccl hu k (.slice da m dc)).toArray (by kernel_rfl) (by kernel_rfl) TC zcm.toArray G7a.out.head (by rw [List.size_toArray, ccl_len _ _ _ HK.out]; kernel_rfl) (by rw [List.size_toArray, List.size_toArray, ccl_len _ _ _ HK.out]; rfl) (one_ccl _ _ _ _ _) ?_
          have G7 := WirS.hide (bag_row G7a.out (ccl hu k (.slice da m dc)))
          clear G7a
          refine hK.out _ _ (HSH.out _ (G7.out.all (box TC X (ccl ht h (.slice a n c))) (by simp)).1 (G7.out.all (box TC Y (ccl hu k (.slice b m d))) (by simp)).1) (fun hHeld => ?_)
          clear hK K
          try simp only [Act.put]
          generalize World.setRow y6 D _ = y7 at *
          refine wpAnyH_done (by kernel_rfl) ?_ _
          refine NoPanic.normal ?_
          clear hHeld
          go_wp2_with fail
          go_meet
          exact ⟨C, D, ca, cc, da, dc, rfl, rfl, G7.out.perm (show [box TC D (ccl hu k (.slice da m dc)), box TC C (ccl ht h (.slice ca n cc)), ownt (.slice da m dc) us, ownt (.slice ca n cc) vs, box TV V v.cells, box TC Y (ccl hu k (.slice b m d)), box TC X (ccl ht h (.slice a n c))].Perm [box TC C (ccl ht h (.slice ca n cc)), box TC D (ccl hu k (.slice da m dc)), ownt (.slice ca n cc) vs, ownt (.slice da m dc) us, box TV V v.cells, box TC Y (ccl hu k (.slice b m d)), box TC X (ccl ht h (.slice a n c))] from ((List.perm_middle (l₁ := [box TC D (ccl hu k (.slice da m dc))])).trans (.cons _ ((List.perm_middle (l₁ := [])).trans (.cons _ ((List.perm_middle (l₁ := [ownt (.slice da m dc) us])).trans (.cons _ ((List.perm_middle (l₁ := [])).trans (.cons _ ((List.perm_middle (l₁ := [])).trans (.cons _ ((List.perm_middle (l₁ := [])).trans (.cons _ ((List.perm_middle (l₁ := [])).trans (.cons _ (.refl _))))))))))))))))⟩
      · rw [if_pos (by kernel_rfl)]
        refine wp_value (w' := u1.alloc (.cells zcm.toArray TC)) (.pointer (some ⟨u1.heap.size, 0, none⟩)) (by kernel_rfl) ?_
        try simp only [List.getElem_toArray, List.getElem_cons_succ, List.getElem_cons_zero, Act.put, List.setIfInBounds_toArray, List.set_cons_zero, List.set_cons_succ]
        obtain ⟨D, eD⟩ : ∃ A, u1.heap.size = A := ⟨_, rfl⟩
        have hbD := bag_box (T := TC) (cs := zcm) (X := D) B1.out eD.symm (w' := u1.alloc (.cells zcm.toArray TC)) (by rw [← eD]; exact At.new _ _ _) (Below.alloc (Below.refl _ _) (Nat.le_refl _) _)
        rw [eD]
        clear eD
        generalize World.alloc u1 _ = u2 at *
        have B2 := WirS.hide hbD
        clear hbD B1
        refine hK.out _ _ (HSH.out _ (B2.out.all (box TC X (ccl ht h (.slice a n c))) (by simp)).1 (B2.out.all (box TC Y (ccl hu k (.slice b m d))) (by simp)).1) (fun hHeld => ?_)
        clear hK K
        refine wpAnyH_ready (rs := [3, 4]) (by kernel_rfl) (by simp) ?_
        refine AllReadyH.cons rfl (fun K hK => ?_) (AllReadyH.cons rfl (fun K hK => ?_) AllReadyH.nil)
        · rw [if_pos (by kernel_rfl)]
          refine stepCallX (HCB.out u2 B2.out.low) (by kernel_rfl) ?_
          rintro e u3 ⟨da, dc, rfl, ho, hnb, hb⟩
          refine ⟨_, rfl, ?_⟩
          try simp only [List.getElem_toArray, List.getElem_cons_succ, List.getElem_cons_zero, Act.put, List.setIfInBounds_toArray, List.set_cons_zero, List.set_cons_succ]
          have B3 := WirS.hide (bag_ownt B2.out ho hnb hb)
          clear ho hnb hb B2
          refine hK.out _ _ (HSH.out _ (B3.out.all (box TC X (ccl ht h (.slice a n c))) (by simp)).1 (B3.out.all (box TC Y (ccl hu k (.slice b m d))) (by simp)).1) (fun hHeld => ?_)
          clear hK K
          refine wpAnyH_ready (rs := [4]) (by kernel_rfl) (by simp) ?_
          refine AllReadyH.cons rfl (fun K hK => ?_) AllReadyH.nil
          rw [if_pos (by kernel_rfl)]
          refine wp_value (w' := u3.alloc (.cells zcm.toArray TC)) (.pointer (some ⟨u3.heap.size, 0, none⟩)) (by kernel_rfl) ?_
          try simp only [List.getElem_toArray, List.getElem_cons_succ, List.getElem_cons_zero, Act.put, List.setIfInBounds_toArray, List.set_cons_zero, List.set_cons_succ]
          obtain ⟨C, eC⟩ : ∃ A, u3.heap.size = A := ⟨_, rfl⟩
          have hbC := bag_box (T := TC) (cs := zcm) (X := C) B3.out eC.symm (w' := u3.alloc (.cells zcm.toArray TC)) (by rw [← eC]; exact At.new _ _ _) (Below.alloc (Below.refl _ _) (Nat.le_refl _) _)
          rw [eC]
          clear eC
          generalize World.alloc u3 _ = u4 at *
          have B4 := WirS.hide hbC
          clear hbC B3
          refine hK.out _ _ (HSH.out _ (B4.out.all (box TC X (ccl ht h (.slice a n c))) (by simp)).1 (B4.out.all (box TC Y (ccl hu k (.slice b m d))) (by simp)).1) (fun hHeld => ?_)
          clear hK K
          refine wpAnyH_ready (rs := [6]) (by kernel_rfl) (by simp) ?_
          refine AllReadyH.cons rfl (fun K hK => ?_) AllReadyH.nil
          rw [if_pos (by kernel_rfl)]
          have G6a := WirS.hide (B4.out.perm (show [box TC C zcm, ownt (.slice da m dc) us, box TC D zcm, ownt (.slice ca n cc) vs, box TV V v.cells, box TC Y (ccl hu k (.slice b m d)), box TC X (ccl ht h (.slice a n c))].Perm [box TC C zcm, ownt (.slice da m dc) us, box TC D zcm, ownt (.slice ca n cc) vs, box TV V v.cells, box TC Y (ccl hu k (.slice b m d)), box TC X (ccl ht h (.slice a n c))] from ((List.perm_middle (l₁ := [])).trans (.cons _ ((List.perm_middle (l₁ := [])).trans (.cons _ ((List.perm_middle (l₁ := [])).trans (.cons _ ((List.perm_middle (l₁ := [])).trans (.cons _ ((List.perm_middle (l₁ := [])).trans (.cons _ ((List.perm_middle (l₁ := [])).trans (.cons _ ((List.perm_middle (l₁ := [])).trans (.cons _ (.refl _)))))))))))))))))
          clear B4
          refine wp_store_row TC (.tmp 7) (.tmp 26) (by kernel_rfl) C (ccl ht h (.slice ca n cc)).toArray (by kernel_rfl) (by kernel_rfl) TC zcm.toArray G6a.out.head (by rw [List.size_toArray, ccl_len _ _ _ HL.out]; kernel_rfl) (by rw [List.size_toArray, List.size_toArray, ccl_len _ _ _ HL.out]; rfl) (one_ccl _ _ _ _ _) ?_
          have G6 := WirS.hide (bag_row G6a.out (ccl ht h (.slice ca n cc)))
          clear G6a
          refine hK.out _ _ (HSH.out _ (G6.out.all (box TC X (ccl ht h (.slice a n c))) (by simp)).1 (G6.out.all (box TC Y (ccl hu k (.slice b m d))) (by simp)).1) (fun hHeld => ?_)
          clear hK K
          try simp only [Act.put]
          generalize World.setRow u4 C _ = y6 at *
          refine wpAnyH_ready (rs := [7]) (by kernel_rfl) (by simp) ?_
          refine AllReadyH.cons rfl (fun K hK => ?_) AllReadyH.nil
          rw [if_pos (by kernel_rfl)]
          have G7a := WirS.hide (G6.out.perm (show [box TC C (ccl ht h (.slice ca n cc)), ownt (.slice da m dc) us, box TC D zcm, ownt (.slice ca n cc) vs, box TV V v.cells, box TC Y (ccl hu k (.slice b m d)), box TC X (ccl ht h (.slice a n c))].Perm [box TC D zcm, box TC C (ccl ht h (.slice ca n cc)), ownt (.slice da m dc) us, ownt (.slice ca n cc) vs, box TV V v.cells, box TC Y (ccl hu k (.slice b m d)), box TC X (ccl ht h (.slice a n c))] from ((List.perm_middle (l₁ := [box TC C (ccl ht h (.slice ca n cc)), ownt (.slice da m dc) us])).trans (.cons _ ((List.perm_middle (l₁ := [])).trans (.cons _ ((List.perm_middle (l₁ := [])).trans (.cons _ ((List.perm_middle (l₁ := [])).trans (.cons _ ((List.perm_middle (l₁ := [])).trans (.cons _ ((List.perm_middle (l₁ := [])).trans (.cons _ ((List.perm_middle (l₁ := [])).trans (.cons _ (.refl _)))))))))))))))))
          clear G6
          refine wp_store_row TC (.tmp 8) (.tmp 28) (by kernel_rfl) D (ccl hu k (.slice da m dc)).toArray (by kernel_rfl) (by kernel_rfl) TC zcm.toArray G7a.out.head (by rw [List.size_toArray, ccl_len _ _ _ HK.out]; kernel_rfl) (by rw [List.size_toArray, List.size_toArray, ccl_len _ _ _ HK.out]; rfl) (one_ccl _ _ _ _ _) ?_
          have G7 := WirS.hide (bag_row G7a.out (ccl hu k (.slice da m dc)))
          clear G7a
          refine hK.out _ _ (HSH.out _ (G7.out.all (box TC X (ccl ht h (.slice a n c))) (by simp)).1 (G7.out.all (box TC Y (ccl hu k (.slice b m d))) (by simp)).1) (fun hHeld => ?_)
          clear hK K
          try simp only [Act.put]
          generalize World.setRow y6 D _ = y7 at *
          refine wpAnyH_done (by kernel_rfl) ?_ _
          refine NoPanic.normal ?_
          clear hHeld
          go_wp2_with fail
          go_meet
          exact ⟨C, D, ca, cc, da, dc, rfl, rfl, G7.out.perm (show [box TC D (ccl hu k (.slice da m dc)), box TC C (ccl ht h (.slice ca n cc)), ownt (.slice da m dc) us, ownt (.slice ca n cc) vs, box TV V v.cells, box TC Y (ccl hu k (.slice b m d)), box TC X (ccl ht h (.slice a n c))].Perm [box TC C (ccl ht h (.slice ca n cc)), box TC D (ccl hu k (.slice da m dc)), ownt (.slice ca n cc) vs, ownt (.slice da m dc) us, box TV V v.cells, box TC Y (ccl hu k (.slice b m d)), box TC X (ccl ht h (.slice a n c))] from ((List.perm_middle (l₁ := [box TC D (ccl hu k (.slice da m dc))])).trans (.cons _ ((List.perm_middle (l₁ := [])).trans (.cons _ ((List.perm_middle (l₁ := [ownt (.slice da m dc) us])).trans (.cons _ ((List.perm_middle (l₁ := [])).trans (.cons _ ((List.perm_middle (l₁ := [])).trans (.cons _ ((List.perm_middle (l₁ := [])).trans (.cons _ ((List.perm_middle (l₁ := [])).trans (.cons _ (.refl _))))))))))))))))⟩
        · rw [if_pos (by kernel_rfl)]
          refine wp_value (w' := u2.alloc (.cells zcm.toArray TC)) (.pointer (some ⟨u2.heap.size, 0, none⟩)) (by kernel_rfl) ?_
          try simp only [List.getElem_toArray, List.getElem_cons_succ, List.getElem_cons_zero, Act.put, List.setIfInBounds_toArray, List.set_cons_zero, List.set_cons_succ]
          obtain ⟨C, eC⟩ : ∃ A, u2.heap.size = A := ⟨_, rfl⟩
          have hbC := bag_box (T := TC) (cs := zcm) (X := C) B2.out eC.symm (w' := u2.alloc (.cells zcm.toArray TC)) (by rw [← eC]; exact At.new _ _ _) (Below.alloc (Below.refl _ _) (Nat.le_refl _) _)
          rw [eC]
          clear eC
          generalize World.alloc u2 _ = u3 at *
          have B3 := WirS.hide hbC
          clear hbC B2
          refine hK.out _ _ (HSH.out _ (B3.out.all (box TC X (ccl ht h (.slice a n c))) (by simp)).1 (B3.out.all (box TC Y (ccl hu k (.slice b m d))) (by simp)).1) (fun hHeld => ?_)
          clear hK K
          refine wpAnyH_ready (rs := [3]) (by kernel_rfl) (by simp) ?_
          refine AllReadyH.cons rfl (fun K hK => ?_) AllReadyH.nil
          rw [if_pos (by kernel_rfl)]
          refine stepCallX (HCB.out u3 B3.out.low) (by kernel_rfl) ?_
          rintro e u4 ⟨da, dc, rfl, ho, hnb, hb⟩
          refine ⟨_, rfl, ?_⟩
          try simp only [List.getElem_toArray, List.getElem_cons_succ, List.getElem_cons_zero, Act.put, List.setIfInBounds_toArray, List.set_cons_zero, List.set_cons_succ]
          have B4 := WirS.hide (bag_ownt B3.out ho hnb hb)
          clear ho hnb hb B3
          refine hK.out _ _ (HSH.out _ (B4.out.all (box TC X (ccl ht h (.slice a n c))) (by simp)).1 (B4.out.all (box TC Y (ccl hu k (.slice b m d))) (by simp)).1) (fun hHeld => ?_)
          clear hK K
          refine wpAnyH_ready (rs := [6]) (by kernel_rfl) (by simp) ?_
          refine AllReadyH.cons rfl (fun K hK => ?_) AllReadyH.nil
          rw [if_pos (by kernel_rfl)]
          have G6a := WirS.hide (B4.out.perm (show [ownt (.slice da m dc) us, box TC C zcm, box TC D zcm, ownt (.slice ca n cc) vs, box TV V v.cells, box TC Y (ccl hu k (.slice b m d)), box TC X (ccl ht h (.slice a n c))].Perm [box TC C zcm, ownt (.slice da m dc) us, box TC D zcm, ownt (.slice ca n cc) vs, box TV V v.cells, box TC Y (ccl hu k (.slice b m d)), box TC X (ccl ht h (.slice a n c))] from ((List.perm_middle (l₁ := [ownt (.slice da m dc) us])).trans (.cons _ ((List.perm_middle (l₁ := [])).trans (.cons _ ((List.perm_middle (l₁ := [])).trans (.cons _ ((List.perm_middle (l₁ := [])).trans (.cons _ ((List.perm_middle (l₁ := [])).trans (.cons _ ((List.perm_middle (l₁ := [])).trans (.cons _ ((List.perm_middle (l₁ := [])).trans (.cons _ (.refl _)))))))))))))))))
          clear B4
          refine wp_store_row TC (.tmp 7) (.tmp 26) (by kernel_rfl) C (ccl ht h (.slice ca n cc)).toArray (by kernel_rfl) (by kernel_rfl) TC zcm.toArray G6a.out.head (by rw [List.size_toArray, ccl_len _ _ _ HL.out]; kernel_rfl) (by rw [List.size_toArray, List.size_toArray, ccl_len _ _ _ HL.out]; rfl) (one_ccl _ _ _ _ _) ?_
          have G6 := WirS.hide (bag_row G6a.out (ccl ht h (.slice ca n cc)))
          clear G6a
          refine hK.out _ _ (HSH.out _ (G6.out.all (box TC X (ccl ht h (.slice a n c))) (by simp)).1 (G6.out.all (box TC Y (ccl hu k (.slice b m d))) (by simp)).1) (fun hHeld => ?_)
          clear hK K
          try simp only [Act.put]
          generalize World.setRow u4 C _ = y6 at *
          refine wpAnyH_ready (rs := [7]) (by kernel_rfl) (by simp) ?_
          refine AllReadyH.cons rfl (fun K hK => ?_) AllReadyH.nil
          rw [if_pos (by kernel_rfl)]
          have G7a := WirS.hide (G6.out.perm (show [box TC C (ccl ht h (.slice ca n cc)), ownt (.slice da m dc) us, box TC D zcm, ownt (.slice ca n cc) vs, box TV V v.cells, box TC Y (ccl hu k (.slice b m d)), box TC X (ccl ht h (.slice a n c))].Perm [box TC D zcm, box TC C (ccl ht h (.slice ca n cc)), ownt (.slice da m dc) us, ownt (.slice ca n cc) vs, box TV V v.cells, box TC Y (ccl hu k (.slice b m d)), box TC X (ccl ht h (.slice a n c))] from ((List.perm_middle (l₁ := [box TC C (ccl ht h (.slice ca n cc)), ownt (.slice da m dc) us])).trans (.cons _ ((List.perm_middle (l₁ := [])).trans (.cons _ ((List.perm_middle (l₁ := [])).trans (.cons _ ((List.perm_middle (l₁ := [])).trans (.cons _ ((List.perm_middle (l₁ := [])).trans (.cons _ ((List.perm_middle (l₁ := [])).trans (.cons _ ((List.perm_middle (l₁ := [])).trans (.cons _ (.refl _)))))))))))))))))
          clear G6
          refine wp_store_row TC (.tmp 8) (.tmp 28) (by kernel_rfl) D (ccl hu k (.slice da m dc)).toArray (by kernel_rfl) (by kernel_rfl) TC zcm.toArray G7a.out.head (by rw [List.size_toArray, ccl_len _ _ _ HK.out]; kernel_rfl) (by rw [List.size_toArray, List.size_toArray, ccl_len _ _ _ HK.out]; rfl) (one_ccl _ _ _ _ _) ?_
          have G7 := WirS.hide (bag_row G7a.out (ccl hu k (.slice da m dc)))
          clear G7a
          refine hK.out _ _ (HSH.out _ (G7.out.all (box TC X (ccl ht h (.slice a n c))) (by simp)).1 (G7.out.all (box TC Y (ccl hu k (.slice b m d))) (by simp)).1) (fun hHeld => ?_)
          clear hK K
          try simp only [Act.put]
          generalize World.setRow y6 D _ = y7 at *
          refine wpAnyH_done (by kernel_rfl) ?_ _
          refine NoPanic.normal ?_
          clear hHeld
          go_wp2_with fail
          go_meet
          exact ⟨C, D, ca, cc, da, dc, rfl, rfl, G7.out.perm (show [box TC D (ccl hu k (.slice da m dc)), box TC C (ccl ht h (.slice ca n cc)), ownt (.slice da m dc) us, ownt (.slice ca n cc) vs, box TV V v.cells, box TC Y (ccl hu k (.slice b m d)), box TC X (ccl ht h (.slice a n c))].Perm [box TC C (ccl ht h (.slice ca n cc)), box TC D (ccl hu k (.slice da m dc)), ownt (.slice ca n cc) vs, ownt (.slice da m dc) us, box TV V v.cells, box TC Y (ccl hu k (.slice b m d)), box TC X (ccl ht h (.slice a n c))] from ((List.perm_middle (l₁ := [box TC D (ccl hu k (.slice da m dc))])).trans (.cons _ ((List.perm_middle (l₁ := [])).trans (.cons _ ((List.perm_middle (l₁ := [ownt (.slice da m dc) us])).trans (.cons _ ((List.perm_middle (l₁ := [])).trans (.cons _ ((List.perm_middle (l₁ := [])).trans (.cons _ ((List.perm_middle (l₁ := [])).trans (.cons _ ((List.perm_middle (l₁ := [])).trans (.cons _ (.refl _))))))))))))))))⟩
    · rw [if_pos (by kernel_rfl)]
      refine wp_value (w' := z0.alloc (.cells zcm.toArray TC)) (.pointer (some ⟨z0.heap.size, 0, none⟩)) (by kernel_rfl) ?_
      try simp only [List.getElem_toArray, List.getElem_cons_succ, List.getElem_cons_zero, Act.put, List.setIfInBounds_toArray, List.set_cons_zero, List.set_cons_succ]
      obtain ⟨C, eC⟩ : ∃ A, z0.heap.size = A := ⟨_, rfl⟩
      have hbC := bag_box (T := TC) (cs := zcm) (X := C) HZ.out eC.symm (w' := z0.alloc (.cells zcm.toArray TC)) (by rw [← eC]; exact At.new _ _ _) (Below.alloc (Below.refl _ _) (Nat.le_refl _) _)
      rw [eC]
      clear eC
      generalize World.alloc z0 _ = u1 at *
      have B1 := WirS.hide hbC
      clear hbC HZ
      refine hK.out _ _ (HSH.out _ (B1.out.all (box TC X (ccl ht h (.slice a n c))) (by simp)).1 (B1.out.all (box TC Y (ccl hu k (.slice b m d))) (by simp)).1) (fun hHeld => ?_)
      clear hK K
      refine wpAnyH_ready (rs := [1, 5]) (by kernel_rfl) (by simp) ?_
      refine AllReadyH.cons rfl (fun K hK => ?_) (AllReadyH.cons rfl (fun K hK => ?_) AllReadyH.nil)
      · rw [if_pos (by kernel_rfl)]
        refine stepCallX (HCA.out u1 B1.out.low) (by kernel_rfl) ?_
        rintro e u2 ⟨ca, cc, rfl, ho, hnb, hb⟩
        refine ⟨_, rfl, ?_⟩
        try simp only [List.getElem_toArray, List.getElem_cons_succ, List.getElem_cons_zero, Act.put, List.setIfInBounds_toArray, List.set_cons_zero, List.set_cons_succ]
        have B2 := WirS.hide (bag_ownt B1.out ho hnb hb)
        clear ho hnb hb B1
        refine hK.out _ _ (HSH.out _ (B2.out.all (box TC X (ccl ht h (.slice a n c))) (by simp)).1 (B2.out.all (box TC Y (ccl hu k (.slice b m d))) (by simp)).1) (fun hHeld => ?_)
        clear hK K
        refine wpAnyH_ready (rs := [3, 5]) (by kernel_rfl) (by simp) ?_
        refine AllReadyH.cons rfl (fun K hK => ?_) (AllReadyH.cons rfl (fun K hK => ?_) AllReadyH.nil)
        · rw [if_pos (by kernel_rfl)]
          refine stepCallX (HCB.out u2 B2.out.low) (by kernel_rfl) ?_
          rintro e u3 ⟨da, dc, rfl, ho, hnb, hb⟩
          refine ⟨_, rfl, ?_⟩
          try simp only [List.getElem_toArray, List.getElem_cons_succ, List.getElem_cons_zero, Act.put, List.setIfInBounds_toArray, List.set_cons_zero, List.set_cons_succ]
          have B3 := WirS.hide (bag_ownt B2.out ho hnb hb)
          clear ho hnb hb B2
          refine hK.out _ _ (HSH.out _ (B3.out.all (box TC X (ccl ht h (.slice a n c))) (by simp)).1 (B3.out.all (box TC Y (ccl hu k (.slice b m d))) (by simp)).1) (fun hHeld => ?_)
          clear hK K
          refine wpAnyH_ready (rs := [5]) (by kernel_rfl) (by simp) ?_
          refine AllReadyH.cons rfl (fun K hK => ?_) AllReadyH.nil
          rw [if_pos (by kernel_rfl)]
          refine wp_value (w' := u3.alloc (.cells zcm.toArray TC)) (.pointer (some ⟨u3.heap.size, 0, none⟩)) (by kernel_rfl) ?_
          try simp only [List.getElem_toArray, List.getElem_cons_succ, List.getElem_cons_zero, Act.put, List.setIfInBounds_toArray, List.set_cons_zero, List.set_cons_succ]
          obtain ⟨D, eD⟩ : ∃ A, u3.heap.size = A := ⟨_, rfl⟩
          have hbD := bag_box (T := TC) (cs := zcm) (X := D) B3.out eD.symm (w' := u3.alloc (.cells zcm.toArray TC)) (by rw [← eD]; exact At.new _ _ _) (Below.alloc (Below.refl _ _) (Nat.le_refl _) _)
          rw [eD]
          clear eD
          generalize World.alloc u3 _ = u4 at *
          have B4 := WirS.hide hbD
          clear hbD B3
          refine hK.out _ _ (HSH.out _ (B4.out.all (box TC X (ccl ht h (.slice a n c))) (by simp)).1 (B4.out.all (box TC Y (ccl hu k (.slice b m d))) (by simp)).1) (fun hHeld => ?_)
          clear hK K
          refine wpAnyH_ready (rs := [6]) (by kernel_rfl) (by simp) ?_
          refine AllReadyH.cons rfl (fun K hK => ?_) AllReadyH.nil
          rw [if_pos (by kernel_rfl)]
          have G6a := WirS.hide (B4.out.perm (show [box TC D zcm, ownt (.slice da m dc) us, ownt (.slice ca n cc) vs, box TC C zcm, box TV V v.cells, box TC Y (ccl hu k (.slice b m d)), box TC X (ccl ht h (.slice a n c))].Perm [box TC C zcm, box TC D zcm, ownt (.slice da m dc) us, ownt (.slice ca n cc) vs, box TV V v.cells, box TC Y (ccl hu k (.slice b m d)), box TC X (ccl ht h (.slice a n c))] from ((List.perm_middle (l₁ := [box TC D zcm, ownt (.slice da m dc) us, ownt (.slice ca n cc) vs])).trans (.cons _ ((List.perm_middle (l₁ := [])).trans (.cons _ ((List.perm_middle (l₁ := [])).trans (.cons _ ((List.perm_middle (l₁ := [])).trans (.cons _ ((List.perm_middle (l₁ := [])).trans (.cons _ ((List.perm_middle (l₁ := [])).trans (.cons _ ((List.perm_middle (l₁ := [])).trans (.cons _ (.refl _)))))))))))))))))
          clear B4
          refine wp_store_row TC (.tmp 7) (.tmp 26) (by kernel_rfl) C (ccl ht h (.slice ca n cc)).toArray (by kernel_rfl) (by kernel_rfl) TC zcm.toArray G6a.out.head (by rw [List.size_toArray, ccl_len _ _ _ HL.out]; kernel_rfl) (by rw [List.size_toArray, List.size_toArray, ccl_len _ _ _ HL.out]; rfl) (one_ccl _ _ _ _ _) ?_
          have G6 := WirS.hide (bag_row G6a.out (ccl ht h (.slice ca n cc)))
          clear G6a
          refine hK.out _ _ (HSH.out _ (G6.out.all (box TC X (ccl ht h (.slice a n c))) (by simp)).1 (G6.out.all (box TC Y (ccl hu k (.slice b m d))) (by simp)).1) (fun hHeld => ?_)
          clear hK K
          try simp only [Act.put]
          generalize World.setRow u4 C _ = y6 at *
          refine wpAnyH_ready (rs := [7]) (by kernel_rfl) (by simp) ?_
          refine AllReadyH.cons rfl (fun K hK => ?_) AllReadyH.nil
          rw [if_pos (by kernel_rfl)]
          have G7a := WirS.hide (G6.out.perm (show [box TC C (ccl ht h (.slice ca n cc)), box TC D zcm, ownt (.slice da m dc) us, ownt (.slice ca n cc) vs, box TV V v.cells, box TC Y (ccl hu k (.slice b m d)), box TC X (ccl ht h (.slice a n c))].Perm [box TC D zcm, box TC C (ccl ht h (.slice ca n cc)), ownt (.slice da m dc) us, ownt (.slice ca n cc) vs, box TV V v.cells, box TC Y (ccl hu k (.slice b m d)), box TC X (ccl ht h (.slice a n c))] from ((List.perm_middle (l₁ := [box TC C (ccl ht h (.slice ca n cc))])).trans (.cons _ ((List.perm_middle (l₁ := [])).trans (.cons _ ((List.perm_middle (l₁ := [])).trans (.cons _ ((List.perm_middle (l₁ := [])).trans (.cons _ ((List.perm_middle (l₁ := [])).trans (.cons _ ((List.perm_middle (l₁ := [])).trans (.cons _ ((List.perm_middle (l₁ := [])).trans (.cons _ (.refl _)))))))))))))))))
          clear G6
          refine wp_store_row TC (.tmp 8) (.tmp 28) (by kernel_rfl) D (ccl hu k (.slice da m dc)).toArray (by kernel_rfl) (by kernel_rfl) TC zcm.toArray G7a.out.head (by rw [List.size_toArray, ccl_len _ _ _ HK.out]; kernel_rfl) (by rw [List.size_toArray, List.size_toArray, ccl_len _ _ _ HK.out]; rfl) (one_ccl _ _ _ _ _) ?_
          have G7 := WirS.hide (bag_row G7a.out (ccl hu k (.slice da m dc)))
          clear G7a
          refine hK.out _ _ (HSH.out _ (G7.out.all (box TC X (ccl ht h (.slice a n c))) (by simp)).1 (G7.out.all (box TC Y (ccl hu k (.slice b m d))) (by simp)).1) (fun hHeld => ?_)
          clear hK K
          try simp only [Act.put]
          generalize World.setRow y6 D _ = y7 at *
          refine wpAnyH_done (by kernel_rfl) ?_ _
          refine NoPanic.normal ?_
          clear hHeld
          go_wp2_with fail
          go_meet
          exact ⟨C, D, ca, cc, da, dc, rfl, rfl, G7.out.perm (show [box TC D (ccl hu k (.slice da m dc)), box TC C (ccl ht h (.slice ca n cc)), ownt (.slice da m dc) us, ownt (.slice ca n cc) vs, box TV V v.cells, box TC Y (ccl hu k (.slice b m d)), box TC X (ccl ht h (.slice a n c))].Perm [box TC C (ccl ht h (.slice ca n cc)), box TC D (ccl hu k (.slice da m dc)), ownt (.slice ca n cc) vs, ownt (.slice da m dc) us, box TV V v.cells, box TC Y (ccl hu k (.slice b m d)), box TC X (ccl ht h (.slice a n c))] from ((List.perm_middle (l₁ := [box TC D (ccl hu k (.slice da m dc))])).trans (.cons _ ((List.perm_middle (l₁ := [])).trans (.cons _ ((List.perm_middle (l₁ := [ownt (.slice da m dc) us])).trans (.cons _ ((List.perm_middle (l₁ := [])).trans (.cons _ ((List.perm_middle (l₁ := [])).trans (.cons _ ((List.perm_middle (l₁ := [])).trans (.cons _ ((List.perm_middle (l₁ := [])).trans (.cons _ (.refl _))))))))))))))))⟩
        · rw [if_pos (by kernel_rfl)]
          refine wp_value (w' := u2.alloc (.cells zcm.toArray TC)) (.pointer (some ⟨u2.heap.size, 0, none⟩)) (by kernel_rfl) ?_
          try simp only [List.getElem_toArray, List.getElem_cons_succ, List.getElem_cons_zero, Act.put, List.setIfInBounds_toArray, List.set_cons_zero, List.set_cons_succ]
          obtain ⟨D, eD⟩ : ∃ A, u2.heap.size = A := ⟨_, rfl⟩
          have hbD := bag_box (T := TC) (cs := zcm) (X := D) B2.out eD.symm (w' := u2.alloc (.cells zcm.toArray TC)) (by rw [← eD]; exact At.new _ _ _) (Below.alloc (Below.refl _ _) (Nat.le_refl _) _)
          rw [eD]
          clear eD
          generalize World.alloc u2 _ = u3 at *
          have B3 := WirS.hide hbD
          clear hbD B2
          refine hK.out _ _ (HSH.out _ (B3.out.all (box TC X (ccl ht h (.slice a n c))) (by simp)).1 (B3.out.all (box TC Y (ccl hu k (.slice b m d))) (by simp)).1) (fun hHeld => ?_)
          clear hK K
          refine wpAnyH_ready (rs := [3]) (by kernel_rfl) (by simp) ?_
          refine AllReadyH.cons rfl (fun K hK => ?_) AllReadyH.nil
          rw [if_pos (by kernel_rfl)]
          refine stepCallX (HCB.out u3 B3.out.low) (by kernel_rfl) ?_
          rintro e u4 ⟨da, dc, rfl, ho, hnb, hb⟩
          refine ⟨_, rfl, ?_⟩
          try simp only [List.getElem_toArray, List.getElem_cons_succ, List.getElem_cons_zero, Act.put, List.setIfInBounds_toArray, List.set_cons_zero, List.set_cons_succ]
          have B4 := WirS.hide (bag_ownt B3.out ho hnb hb)
          clear ho hnb hb B3
          refine hK.out _ _ (HSH.out _ (B4.out.all (box TC X (ccl ht h (.slice a n c))) (by simp)).1 (B4.out.all (box TC Y (ccl hu k (.slice b m d))) (by simp)).1) (fun hHeld => ?_)
          clear hK K
          refine wpAnyH_ready (rs := [6]) (by kernel_rfl) (by simp) ?_
          refine AllReadyH.cons rfl (fun K hK => ?_) AllReadyH.nil
          rw [if_pos (by kernel_rfl)]
          have G6a := WirS.hide (B4.out.perm (show [ownt (.slice da m dc) us, box TC D zcm, ownt (.slice ca n cc) vs, box TC C zcm, box TV V v.cells, box TC Y (ccl hu k (.slice b m d)), box TC X (ccl ht h (.slice a n c))].Perm [box TC C zcm, ownt (.slice da m dc) us, box TC D zcm, ownt (.slice ca n cc) vs, box TV V v.cells, box TC Y (ccl hu k (.slice b m d)), box TC X (ccl ht h (.slice a n c))] from ((List.perm_middle (l₁ := [ownt (.slice da m dc) us, box TC D zcm, ownt (.slice ca n cc) vs])).trans (.cons _ ((List.perm_middle (l₁ := [])).trans (.cons _ ((List.perm_middle (l₁ := [])).trans (.cons _ ((List.perm_middle (l₁ := [])).trans (.cons _ ((List.perm_middle (l₁ := [])).trans (.cons _ ((List.perm_middle (l₁ := [])).trans (.cons _ ((List.perm_middle (l₁ := [])).trans (.cons _ (.refl _)))))))))))))))))
          clear B4
          refine wp_store_row TC (.tmp 7) (.tmp 26) (by kernel_rfl) C (ccl ht h (.slice ca n cc)).toArray (by kernel_rfl) (by kernel_rfl) TC zcm.toArray G6a.out.head (by rw [List.size_toArray, ccl_len _ _ _ HL.out]; kernel_rfl) (by rw [List.size_toArray, List.size_toArray, ccl_len _ _ _ HL.out]; rfl) (one_ccl _ _ _ _ _) ?_
          have G6 := WirS.hide (bag_row G6a.out (ccl ht h (.slice ca n cc)))
          clear G6a
          refine hK.out _ _ (HSH.out _ (G6.out.all (box TC X (ccl ht h (.slice a n c))) (by simp)).1 (G6.out.all (box TC Y (ccl hu k (.slice b m d))) (by simp)).1) (fun hHeld => ?_)
          clear hK K
          try simp only [Act.put]
          generalize World.setRow u4 C _ = y6 at *
          refine wpAnyH_ready (rs := [7]) (by kernel_rfl) (by simp) ?_
          refine AllReadyH.cons rfl (fun K hK => ?_) AllReadyH.nil
          rw [if_pos (by kernel_rfl)]
          have G7a := WirS.hide (G6.out.perm (show [box TC C (ccl ht h (.slice ca n cc)), ownt (.slice da m dc) us, box TC D zcm, ownt (.slice ca n cc) vs, box TV V v.cells, box TC Y (ccl hu k (.slice b m d)), box TC X (ccl ht h (.slice a n c))].Perm [box TC D zcm, box TC C (ccl ht h (.slice ca n cc)), ownt (.slice da m dc) us, ownt (.slice ca n cc) vs, box TV V v.cells, box TC Y (ccl hu k (.slice b m d)), box TC X (ccl ht h (.slice a n c))] from ((List.perm_middle (l₁ := [box TC C (ccl ht h (.slice ca n cc)), ownt (.slice da m dc) us])).trans (.cons _ ((List.perm_middle (l₁ := [])).trans (.cons _ ((List.perm_middle (l₁ := [])).trans (.cons _ ((List.perm_middle (l₁ := [])).trans (.cons _ ((List.perm_middle (l₁ := [])).trans (.cons _ ((List.perm_middle (l₁ := [])).trans (.cons _ ((List.perm_middle (l₁ := [])).trans (.cons _ (.refl _)))))))))))))))))
          clear G6
          refine wp_store_row TC (.tmp 8) (.tmp 28) (by kernel_rfl) D (ccl hu k (.slice da m dc)).toArray (by kernel_rfl) (by kernel_rfl) TC zcm.toArray G7a.out.head (by rw [List.size_toArray, ccl_len _ _ _ HK.out]; kernel_rfl) (by rw [List.size_toArray, List.size_toArray, ccl_len _ _ _ HK.out]; rfl) (one_ccl _ _ _ _ _) ?_
          have G7 := WirS.hide (bag_row G7a.out (ccl hu k (.slice da m dc)))
          clear G7a
          refine hK.out _ _ (HSH.out _ (G7.out.all (box TC X (ccl ht h (.slice a n c))) (by simp)).1 (G7.out.all (box TC Y (ccl hu k (.slice b m d))) (by simp)).1) (fun hHeld => ?_)
          clear hK K
          try simp only [Act.put]
          generalize World.setRow y6 D _ = y7 at *
          refine wpAnyH_done (by kernel_rfl) ?_ _
          refine NoPanic.normal ?_
          clear hHeld
          go_wp2_with fail
          go_meet
          exact ⟨C, D, ca, cc, da, dc, rfl, rfl, G7.out.perm (show [box TC D (ccl hu k (.slice da m dc)), box TC C (ccl ht h (.slice ca n cc)), ownt (.slice da m dc) us, ownt (.slice ca n cc) vs, box TV V v.cells, box TC Y (ccl hu k (.slice b m d)), box TC X (ccl ht h (.slice a n c))].Perm [box TC C (ccl ht h (.slice ca n cc)), box TC D (ccl hu k (.slice da m dc)), ownt (.slice ca n cc) vs, ownt (.slice da m dc) us, box TV V v.cells, box TC Y (ccl hu k (.slice b m d)), box TC X (ccl ht h (.slice a n c))] from ((List.perm_middle (l₁ := [box TC D (ccl hu k (.slice da m dc))])).trans (.cons _ ((List.perm_middle (l₁ := [])).trans (.cons _ ((List.perm_middle (l₁ := [ownt (.slice da m dc) us])).trans (.cons _ ((List.perm_middle (l₁ := [])).trans (.cons _ ((List.perm_middle (l₁ := [])).trans (.cons _ ((List.perm_middle (l₁ := [])).trans (.cons _ ((List.perm_middle (l₁ := [])).trans (.cons _ (.refl _))))))))))))))))⟩
      · rw [if_pos (by kernel_rfl)]
        refine wp_value (w' := u1.alloc (.cells zcm.toArray TC)) (.pointer (some ⟨u1.heap.size, 0, none⟩)) (by kernel_rfl) ?_
        try simp only [List.getElem_toArray, List.getElem_cons_succ, List.getElem_cons_zero, Act.put, List.setIfInBounds_toArray, List.set_cons_zero, List.set_cons_succ]
        obtain ⟨D, eD⟩ : ∃ A, u1.heap.size = A := ⟨_, rfl⟩
        have hbD := bag_box (T := TC) (cs := zcm) (X := D) B1.out eD.symm (w' := u1.alloc (.cells zcm.toArray TC)) (by rw [← eD]; exact At.new _ _ _) (Below.alloc (Below.refl _ _) (Nat.le_refl _) _)
        rw [eD]
        clear eD
        generalize World.alloc u1 _ = u2 at *
        have B2 := WirS.hide hbD
        clear hbD B1
        refine hK.out _ _ (HSH.out _ (B2.out.all (box TC X (ccl ht h (.slice a n c))) (by simp)).1 (B2.out.all (box TC Y (ccl hu k (.slice b m d))) (by simp)).1) (fun hHeld => ?_)
        clear hK K
        refine wpAnyH_ready (rs := [1]) (by kernel_rfl) (by simp) ?_
        refine AllReadyH.cons rfl (fun K hK => ?_) AllReadyH.nil
        rw [if_pos (by kernel_rfl)]
        refine stepCallX (HCA.out u2 B2.out.low) (by kernel_rfl) ?_
        rintro e u3 ⟨ca, cc, rfl, ho, hnb, hb⟩
        refine ⟨_, rfl, ?_⟩
        try simp only [List.getElem_toArray, List.getElem_cons_succ, List.getElem_cons_zero, Act.put, List.setIfInBounds_toArray, List.set_cons_zero, List.set_cons_succ]
        have B3 := WirS.hide (bag_ownt B2.out ho hnb hb)
        clear ho hnb hb B2
        refine hK.out _ _ (HSH.out _ (B3.out.all (box TC X (ccl ht h (.slice a n c))) (by simp)).1 (B3.out.all (box TC Y (ccl hu k (.slice b m d))) (by simp)).1) (fun hHeld => ?_)
        clear hK K
        refine wpAnyH_ready (rs := [3]) (by kernel_rfl) (by simp) ?_
        refine AllReadyH.cons rfl (fun K hK => ?_) AllReadyH.nil
        rw [if_pos (by kernel_rfl)]
        refine stepCallX (HCB.out u3 B3.out.low) (by kernel_rfl) ?_
        rintro e u4 ⟨da, dc, rfl, ho, hnb, hb⟩
        refine ⟨_, rfl, ?_⟩
        try simp only [List.getElem_toArray, List.getElem_cons_succ, List.getElem_cons_zero, Act.put, List.setIfInBounds_toArray, List.set_cons_zero, List.set_cons_succ]
        have B4 := WirS.hide (bag_ownt B3.out ho hnb hb)
        clear ho hnb hb B3
        refine hK.out _ _ (HSH.out _ (B4.out.all (box TC X (ccl ht h (.slice a n c))) (by simp)).1 (B4.out.all (box TC Y (ccl hu k (.slice b m d))) (by simp)).1) (fun hHeld => ?_)
        clear hK K
        refine wpAnyH_ready (rs := [6]) (by kernel_rfl) (by simp) ?_
        refine AllReadyH.cons rfl (fun K hK => ?_) AllReadyH.nil
        rw [if_pos (by kernel_rfl)]
        have G6a := WirS.hide (B4.out.perm (show [ownt (.slice da m dc) us, ownt (.slice ca n cc) vs, box TC D zcm, box TC C zcm, box TV V v.cells, box TC Y (ccl hu k (.slice b m d)), box TC X (ccl ht h (.slice a n c))].Perm [box TC C zcm, ownt (.slice da m dc) us, ownt (.slice ca n cc) vs, box TC D zcm, box TV V v.cells, box TC Y (ccl hu k (.slice b m d)), box TC X (ccl ht h (.slice a n c))] from ((List.perm_middle (l₁ := [ownt (.slice da m dc) us, ownt (.slice ca n cc) vs, box TC D zcm])).trans (.cons _ ((List.perm_middle (l₁ := [])).trans (.cons _ ((List.perm_middle (l₁ := [])).trans (.cons _ ((List.perm_middle (l₁ := [])).trans (.cons _ ((List.perm_middle (l₁ := [])).trans (.cons _ ((List.perm_middle (l₁ := [])).trans (.cons _ ((List.perm_middle (l₁ := [])).trans (.cons _ (.refl _)))))))))))))))))
        clear B4
        refine wp_store_row TC (.tmp 7) (.tmp 26) (by kernel_rfl) C (ccl ht h (.slice ca n cc)).toArray (by kernel_rfl) (by kernel_rfl) TC zcm.toArray G6a.out.head (by rw [List.size_toArray, ccl_len _ _ _ HL.out]; kernel_rfl) (by rw [List.size_toArray, List.size_toArray, ccl_len _ _ _ HL.out]; rfl) (one_ccl _ _ _ _ _) ?_
        have G6 := WirS.hide (bag_row G6a.out (ccl ht h (.slice ca n cc)))
        clear G6a
        refine hK.out _ _ (HSH.out _ (G6.out.all (box TC X (ccl ht h (.slice a n c))) (by simp)).1 (G6.out.all (box TC Y (ccl hu k (.slice b m d))) (by simp)).1) (fun hHeld => ?_)
        clear hK K
        try simp only [Act.put]
        generalize World.setRow u4 C _ = y6 at *
        refine wpAnyH_ready (rs := [7]) (by kernel_rfl) (by simp) ?_
        refine AllReadyH.cons rfl (fun K hK => ?_) AllReadyH.nil
        rw [if_pos (by kernel_rfl)]
        have G7a := WirS.hide (G6.out.perm (show [box TC C (ccl ht h (.slice ca n cc)), ownt (.slice da m dc) us, ownt (.slice ca n cc) vs, box TC D zcm, box TV V v.cells, box TC Y (ccl hu k (.slice b m d)), box TC X (ccl ht h (.slice a n c))].Perm [box TC D zcm, box TC C (ccl ht h (.slice ca n cc)), ownt (.slice da m dc) us, ownt (.slice ca n cc) vs, box TV V v.cells, box TC Y (ccl hu k (.slice b m d)), box TC X (ccl ht h (.slice a n c))] from ((List.perm_middle (l₁ := [box TC C (ccl ht h (.slice ca n cc)), ownt (.slice da m dc) us, ownt (.slice ca n cc) vs])).trans (.cons _ ((List.perm_middle (l₁ := [])).trans (.cons _ ((List.perm_middle (l₁ := [])).trans (.cons _ ((List.perm_middle (l₁ := [])).trans (.cons _ ((List.perm_middle (l₁ := [])).trans (.cons _ ((List.perm_middle (l₁ := [])).trans (.cons _ ((List.perm_middle (l₁ := [])).trans (.cons _ (.refl _)))))))))))))))))
        clear G6
        refine wp_store_row TC (.tmp 8) (.tmp 28) (by kernel_rfl) D (ccl hu k (.slice da m dc)).toArray (by kernel_rfl) (by kernel_rfl) TC zcm.toArray G7a.out.head (by rw [List.size_toArray, ccl_len _ _ _ HK.out]; kernel_rfl) (by rw [List.size_toArray, List.size_toArray, ccl_len _ _ _ HK.out]; rfl) (one_ccl _ _ _ _ _) ?_
        have G7 := WirS.hide (bag_row G7a.out (ccl hu k (.slice da m dc)))
        clear G7a
        refine hK.out _ _ (HSH.out _ (G7.out.all (box TC X (ccl ht h (.slice a n c))) (by simp)).1 (G7.out.all (box TC Y (ccl hu k (.slice b m d))) (by simp)).1) (fun hHeld => ?_)
        clear hK K
        try simp only [Act.put]
        generalize World.setRow y6 D _ = y7 at *
        refine wpAnyH_done (by kernel_rfl) ?_ _
        refine NoPanic.normal ?_
        clear hHeld
        go_wp2_with fail
        go_meet
        exact ⟨C, D, ca, cc, da, dc, rfl, rfl, G7.out.perm (show [box TC D (ccl hu k (.slice da m dc)), box TC C (ccl ht h (.slice ca n cc)), ownt (.slice da m dc) us, ownt (.slice ca n cc) vs, box TV V v.cells, box TC Y (ccl hu k (.slice b m d)), box TC X (ccl ht h (.slice a n c))].Perm [box TC C (ccl ht h (.slice ca n cc)), box TC D (ccl hu k (.slice da m dc)), ownt (.slice ca n cc) vs, ownt (.slice da m dc) us, box TV V v.cells, box TC Y (ccl hu k (.slice b m d)), box TC X (ccl ht h (.slice a n c))] from ((List.perm_middle (l₁ := [box TC D (ccl hu k (.slice da m dc))])).trans (.cons _ ((List.perm_middle (l₁ := [])).trans (.cons _ ((List.perm_middle (l₁ := [ownt (.slice da m dc) us])).trans (.cons _ ((List.perm_middle (l₁ := [])).trans (.cons _ ((List.perm_middle (l₁ := [])).trans (.cons _ ((List.perm_middle (l₁ := [])).trans (.cons _ ((List.perm_middle (l₁ := [])).trans (.cons _ (.refl _))))))))))))))))⟩
    · rw [if_pos (by kernel_rfl)]
      refine wp_value (w' := z0.alloc (.cells zcm.toArray TC)) (.pointer (some ⟨z0.heap.size, 0, none⟩)) (by kernel_rfl) ?_
      try simp only [List.getElem_toArray, List.getElem_cons_succ, List.getElem_cons_zero, Act.put, List.setIfInBounds_toArray, List.set_cons_zero, List.set_cons_succ]
      obtain ⟨D, eD⟩ : ∃ A, z0.heap.size = A := ⟨_, rfl⟩
      have hbD := bag_box (T := TC) (cs := zcm) (X := D) HZ.out eD.symm (w' := z0.alloc (.cells zcm.toArray TC)) (by rw [← eD]; exact At.new _ _ _) (Below.alloc (Below.refl _ _) (Nat.le_refl _) _)
      rw [eD]
      clear eD
      generalize World.alloc z0 _ = u1 at *
      have B1 := WirS.hide hbD
      clear hbD HZ
      refine hK.out _ _ (HSH.out _ (B1.out.all (box TC X (ccl ht h (.slice a n c))) (by simp)).1 (B1.out.all (box TC Y (ccl hu k (.slice b m d))) (by simp)).1) (fun hHeld => ?_)
      clear hK K
      refine wpAnyH_ready (rs := [1, 4]) (by kernel_rfl) (by simp) ?_
      refine AllReadyH.cons rfl (fun K hK => ?_) (AllReadyH.cons rfl (fun K hK => ?_) AllReadyH.nil)
      · rw [if_pos (by kernel_rfl)]
        refine stepCallX (HCA.out u1 B1.out.low) (by kernel_rfl) ?_
        rintro e u2 ⟨ca, cc, rfl, ho, hnb, hb⟩
        refine ⟨_, rfl, ?_⟩
        try simp only [List.getElem_toArray, List.getElem_cons_succ, List.getElem_cons_zero, Act.put, List.setIfInBounds_toArray, List.set_cons_zero, List.set_cons_succ]
        have B2 := WirS.hide (bag_ownt B1.out ho hnb hb)
        clear ho hnb hb B1
        refine hK.out _ _ (HSH.out _ (B2.out.all (box TC X (ccl ht h (.slice a n c))) (by simp)).1 (B2.out.all (box TC Y (ccl hu k (.slice b m d))) (by simp)).1) (fun hHeld => ?_)
        clear hK K
        refine wpAnyH_ready (rs := [3, 4]) (by kernel_rfl) (by simp) ?_
        refine AllReadyH.cons rfl (fun K hK => ?_) (AllReadyH.cons rfl (fun K hK => ?_) AllReadyH.nil)
        · rw [if_pos (by kernel_rfl)]
          refine stepCallX (HCB.out u2 B2.out.low) (by kernel_rfl) ?_
          rintro e u3 ⟨da, dc, rfl, ho, hnb, hb⟩
          refine ⟨_, rfl, ?_⟩
          try simp only [List.getElem_toArray, List.getElem_cons_succ, List.getElem_cons_zero, Act.put, List.setIfInBounds_toArray, List.set_cons_zero, List.set_cons_succ]
          have B3 := WirS.hide (bag_ownt B2.out ho hnb hb)
          clear ho hnb hb B2
          refine hK.out _ _ (HSH.out _ (B3.out.all (box TC X (ccl ht h (.slice a n c))) (by simp)).1 (B3.out.all (box TC Y (ccl hu k (.slice b m d))) (by simp)).1) (fun hHeld => ?_)
          clear hK K
          refine wpAnyH_ready (rs := [4]) (by kernel_rfl) (by simp) ?_
          refine AllReadyH.cons rfl (fun K hK => ?_) AllReadyH.nil
          rw [if_pos (by kernel_rfl)]
          refine wp_value (w' := u3.alloc (.cells zcm.toArray TC)) (.pointer (some ⟨u3.heap.size, 0, none⟩)) (by kernel_rfl) ?_
          try simp only [List.getElem_toArray, List.getElem_cons_succ, List.getElem_cons_zero, Act.put, List.setIfInBounds_toArray, List.set_cons_zero, List.set_cons_succ]
          obtain ⟨C, eC⟩ : ∃ A, u3.heap.size = A := ⟨_, rfl⟩
          have hbC := bag_box (T := TC) (cs := zcm) (X := C) B3.out eC.symm (w' := u3.alloc (.cells zcm.toArray TC)) (by rw [← eC]; exact At.new _ _ _) (Below.alloc (Below.refl _ _) (Nat.le_refl _) _)
          rw [eC]
          clear eC
          generalize World.alloc u3 _ = u4 at *
          have B4 := WirS.hide hbC
          clear hbC B3
          refine hK.out _ _ (HSH.out _ (B4.out.all (box TC X (ccl ht h (.slice a n c))) (by simp)).1 (B4.out.all (box TC Y (ccl hu k (.slice b m d))) (by simp)).1) (fun hHeld => ?_)
          clear hK K
          refine wpAnyH_ready (rs := [6]) (by kernel_rfl) (by simp) ?_
          refine AllReadyH.cons rfl (fun K hK => ?_) AllReadyH.nil
          rw [if_pos (by kernel_rfl)]
          have G6a := WirS.hide (B4.out.perm (show [box TC C zcm, ownt (.slice da m dc) us, ownt (.slice ca n cc) vs, box TC D zcm, box TV V v.cells, box TC Y (ccl hu k (.slice b m d)), box TC X (ccl ht h (.slice a n c))].Perm [box TC C zcm, ownt (.slice da m dc) us, ownt (.slice ca n cc) vs, box TC D zcm, box TV V v.cells, box TC Y (ccl hu k (.slice b m d)), box TC X (ccl ht h (.slice a n c))] from ((List.perm_middle (l₁ := [])).trans (.cons _ ((List.perm_middle (l₁ := [])).trans (.cons _ ((List.perm_middle (l₁ := [])).trans (.cons _ ((List.perm_middle (l₁ := [])).trans (.cons _ ((List.perm_middle (l₁ := [])).trans (.cons _ ((List.perm_middle (l₁ := [])).trans (.cons _ ((List.perm_middle (l₁ := [])).trans (.cons _ (.refl _)))))))))))))))))
          clear B4
          refine wp_store_row TC (.tmp 7) (.tmp 26) (by kernel_rfl) C (ccl ht h (.slice ca n cc)).toArray (by kernel_rfl) (by kernel_rfl) TC zcm.toArray G6a.out.head (by rw [List.size_toArray, ccl_len _ _ _ HL.out]; kernel_rfl) (by rw [List.size_toArray, List.size_toArray, ccl_len _ _ _ HL.out]; rfl) (one_ccl _ _ _ _ _) ?_
          have G6 := WirS.hide (bag_row G6a.out (ccl ht h (.slice ca n cc)))
          clear G6a
          refine hK.out _ _ (HSH.out _ (G6.out.all (box TC X (ccl ht h (.slice a n c))) (by simp)).1 (G6.out.all (box TC Y (ccl hu k (.slice b m d))) (by simp)).1) (fun hHeld => ?_)
          clear hK K
          try simp only [Act.put]
          generalize World.setRow u4 C _ = y6 at *
          refine wpAnyH_ready (rs := [7]) (by kernel_rfl) (by simp) ?_
          refine AllReadyH.cons rfl (fun K hK => ?_) AllReadyH.nil
          rw [if_pos (by kernel_rfl)]
          have G7a := WirS.hide (G6.out.perm (show [box TC C (ccl ht h (.slice ca n cc)), ownt (.slice da m dc) us, ownt (.slice ca n cc) vs, box TC D zcm, box TV V v.cells, box TC Y (ccl hu k (.slice b m d)), box TC X (ccl ht h (.slice a n c))].Perm [box TC D zcm, box TC C (ccl ht h (.slice ca n cc)), ownt (.slice da m dc) us, ownt (.slice ca n cc) vs, box TV V v.cells, box TC Y (ccl hu k (.slice b m d)), box TC X (ccl ht h (.slice a n c))] from ((List.perm_middle (l₁ := [box TC C (ccl ht h (.slice ca n cc)), ownt (.slice da m dc) us, ownt (.slice ca n cc) vs])).trans (.cons _ ((List.perm_middle (l₁ := [])).trans (.cons _ ((List.perm_middle (l₁ := [])).trans (.cons _ ((List.perm_middle (l₁ := [])).trans (.cons _ ((List.perm_middle (l₁ := [])).trans (.cons _ ((List.perm_middle (l₁ := [])).trans (.cons _ ((List.perm_middle (l₁ := [])).trans (.cons _ (.refl _)))))))))))))))))
          clear G6
          refine wp_store_row TC (.tmp 8) (.tmp 28) (by kernel_rfl) D (ccl hu k (.slice da m dc)).toArray (by kernel_rfl) (by kernel_rfl) TC zcm.toArray G7a.out.head (by rw [List.size_toArray, ccl_len _ _ _ HK.out]; kernel_rfl) (by rw [List.size_toArray, List.size_toArray, ccl_len _ _ _ HK.out]; rfl) (one_ccl _ _ _ _ _) ?_
          have G7 := WirS.hide (bag_row G7a.out (ccl hu k (.slice da m dc)))
          clear G7a
          refine hK.out _ _ (HSH.out _ (G7.out.all (box TC X (ccl ht h (.slice a n c))) (by simp)).1 (G7.out.all (box TC Y (ccl hu k (.slice b m d))) (by simp)).1) (fun hHeld => ?_)
          clear hK K
          try simp only [Act.put]
          generalize World.setRow y6 D _ = y7 at *
          refine wpAnyH_done (by kernel_rfl) ?_ _
          refine NoPanic.normal ?_
          clear hHeld
          go_wp2_with fail
          go_meet
          exact ⟨C, D, ca, cc, da, dc, rfl, rfl, G7.out.perm (show [box TC D (ccl hu k (.slice da m dc)), box TC C (ccl ht h (.slice ca n cc)), ownt (.slice da m dc) us, ownt (.slice ca n cc) vs, box TV V v.cells, box TC Y (ccl hu k (.slice b m d)), box TC X (ccl ht h (.slice a n c))].Perm [box TC C (ccl ht h (.slice ca n cc)), box TC D (ccl hu k (.slice da m dc)), ownt (.slice ca n cc) vs, ownt (.slice da m dc) us, box TV V v.cells, box TC Y (ccl hu k (.slice b m d)), box TC X (ccl ht h (.slice a n c))] from ((List.perm_middle (l₁ := [box TC D (ccl hu k (.slice da m dc))])).trans (.cons _ ((List.perm_middle (l₁ := [])).trans (.cons _ ((List.perm_middle (l₁ := [ownt (.slice da m dc) us])).trans (.cons _ ((List.perm_middle (l₁ := [])).trans (.cons _ ((List.perm_middle (l₁ := [])).trans (.cons _ ((List.perm_middle (l₁ := [])).trans (.cons _ ((List.perm_middle (l₁ := [])).trans (.cons _ (.refl _))))))))))))))))⟩
        · rw [if_pos (by kernel_rfl)]
          refine wp_value (w' := u2.alloc (.cells zcm.toArray TC)) (.pointer (some ⟨u2.heap.size, 0, none⟩)) (by kernel_rfl) ?_
          try simp only [List.getElem_toArray, List.getElem_cons_succ, List.getElem_cons_zero, Act.put, List.setIfInBounds_toArray, List.set_cons_zero, List.set_cons_succ]
          obtain ⟨C, eC⟩ : ∃ A, u2.heap.size = A := ⟨_, rfl⟩
          have hbC := bag_box (T := TC) (cs := zcm) (X := C) B2.out eC.symm (w' := u2.alloc (.cells zcm.toArray TC)) (by rw [← eC]; exact At.new _ _ _) (Below.alloc (Below.refl _ _) (Nat.le_refl _) _)
          rw [eC]
          clear eC
          generalize World.alloc u2 _ = u3 at *
          have B3 := WirS.hide hbC
          clear hbC B2
          refine hK.out _ _ (HSH.out _ (B3.out.all (box TC X (ccl ht h (.slice a n c))) (by simp)).1 (B3.out.all (box TC Y (ccl hu k (.slice b m d))) (by simp)).1) (fun hHeld => ?_)
          clear hK K
          refine wpAnyH_ready (rs := [3]) (by kernel_rfl) (by simp) ?_
          refine AllReadyH.cons rfl (fun K hK => ?_) AllReadyH.nil
          rw [if_pos (by kernel_rfl)]
          refine stepCallX (HCB.out u3 B3.out.low) (by kernel_rfl) ?_
          rintro e u4 ⟨da, dc, rfl, ho, hnb, hb⟩
          refine ⟨_, rfl, ?_⟩
          try simp only [List.getElem_toArray, List.getElem_cons_succ, List.getElem_cons_zero, Act.put, List.setIfInBounds_toArray, List.set_cons_zero, List.set_cons_succ]
          have B4 := WirS.hide (bag_ownt B3.out ho hnb hb)
          clear ho hnb hb B3
          refine hK.out _ _ (HSH.out _ (B4.out.all (box TC X (ccl ht h (.slice a n c))) (by simp)).1 (B4.out.all (box TC Y (ccl hu k (.slice b m d))) (by simp)).1) (fun hHeld => ?_)
          clear hK K
          refine wpAnyH_ready (rs := [6]) (by kernel_rfl) (by simp) ?_
          refine AllReadyH.cons rfl (fun K hK => ?_) AllReadyH.nil
          rw [if_pos (by kernel_rfl)]
          have G6a := WirS.hide (B4.out.perm (show [ownt (.slice da m dc) us, box TC C zcm, ownt (.slice ca n cc) vs, box TC D zcm, box TV V v.cells, box TC Y (ccl hu k (.slice b m d)), box TC X (ccl ht h (.slice a n c))].Perm [box TC C zcm, ownt (.slice da m dc) us, ownt (.slice ca n cc) vs, box TC D zcm, box TV V v.cells, box TC Y (ccl hu k (.slice b m d)), box TC X (ccl ht h (.slice a n c))] from ((List.perm_middle (l₁ := [ownt (.slice da m dc) us])).trans (.cons _ ((List.perm_middle (l₁ := [])).trans (.cons _ ((List.perm_middle (l₁ := [])).trans (.cons _ ((List.perm_middle (l₁ := [])).trans (.cons _ ((List.perm_middle (l₁ := [])).trans (.cons _ ((List.perm_middle (l₁ := [])).trans (.cons _ ((List.perm_middle (l₁ := [])).trans (.cons _ (.refl _)))))))))))))))))
          clear B4
          refine wp_store_row TC (.tmp 7) (.tmp 26) (by kernel_rfl) C (ccl ht h (.slice ca n cc)).toArray (by kernel_rfl) (by kernel_rfl) TC zcm.toArray G6a.out.head (by rw [List.size_toArray, ccl_len _ _ _ HL.out]; kernel_rfl) (by rw [List.size_toArray, List.size_toArray, ccl_len _ _ _ HL.out]; rfl) (one_ccl _ _ _ _ _) ?_
          have G6 := WirS.hide (bag_row G6a.out (ccl ht h (.slice ca n cc)))
          clear G6a
          refine hK.out _ _ (HSH.out _ (G6.out.all (box TC X (ccl ht h (.slice a n c))) (by simp)).1 (G6.out.all (box TC Y (ccl hu k (.slice b m d))) (by simp)).1) (fun hHeld => ?_)
          clear hK K
          try simp only [Act.put]
          generalize World.setRow u4 C _ = y6 at *
          refine wpAnyH_ready (rs := [7]) (by kernel_rfl) (by simp) ?_
          refine AllReadyH.cons rfl (fun K hK => ?_) AllReadyH.nil
          rw [if_pos (by kernel_rfl)]
          have G7a := WirS.hide (G6.out.perm (show [box TC C (ccl ht h (.slice ca n cc)), ownt (.slice da m dc) us, ownt (.slice ca n cc) vs, box TC D zcm, box TV V v.cells, box TC Y (ccl hu k (.slice b m d)), box TC X (ccl ht h (.slice a n c))].Perm [box TC D zcm, box TC C (ccl ht h (.slice ca n cc)), ownt (.slice da m dc) us, ownt (.slice ca n cc) vs, box TV V v.cells, box TC Y (ccl hu k (.slice b m d)), box TC X (ccl ht h (.slice a n c))] from ((List.perm_middle (l₁ := [box TC C (ccl ht h (.slice ca n cc)), ownt (.slice da m dc) us, ownt (.slice ca n cc) vs])).trans (.cons _ ((List.perm_middle (l₁ := [])).trans (.cons _ ((List.perm_middle (l₁ := [])).trans (.cons _ ((List.perm_middle (l₁ := [])).trans (.cons _ ((List.perm_middle (l₁ := [])).trans (.cons _ ((List.perm_middle (l₁ := [])).trans (.cons _ ((List.perm_middle (l₁ := [])).trans (.cons _ (.refl _)))))))))))))))))
          clear G6
          refine wp_store_row TC (.tmp 8) (.tmp 28) (by kernel_rfl) D (ccl hu k (.slice da m dc)).toArray (by kernel_rfl) (by kernel_rfl) TC zcm.toArray G7a.out.head (by rw [List.size_toArray, ccl_len _ _ _ HK.out]; kernel_rfl) (by rw [List.size_toArray, List.size_toArray, ccl_len _ _ _ HK.out]; rfl) (one_ccl _ _ _ _ _) ?_
          have G7 := WirS.hide (bag_row G7a.out (ccl hu k (.slice da m dc)))
          clear G7a
          refine hK.out _ _ (HSH.out _ (G7.out.all (box TC X (ccl ht h (.slice a n c))) (by simp)).1 (G7.out.all (box TC Y (ccl hu k (.slice b m d))) (by simp)).1) (fun hHeld => ?_)
          clear hK K
          try simp only [Act.put]
          generalize World.setRow y6 D _ = y7 at *
          refine wpAnyH_done (by kernel_rfl) ?_ _
          refine NoPanic.normal ?_
          clear hHeld
          go_wp2_with fail
          go_meet
          exact ⟨C, D, ca, cc, da, dc, rfl, rfl, G7.out.perm (show [box TC D (ccl hu k (.slice da m dc)), box TC C (ccl ht h (.slice ca n cc)), ownt (.slice da m dc) us, ownt (.slice ca n cc) vs, box TV V v.cells, box TC Y (ccl hu k (.slice b m d)), box TC X (ccl ht h (.slice a n c))].Perm [box TC C (ccl ht h (.slice ca n cc)), box TC D (ccl hu k (.slice da m dc)), ownt (.slice ca n cc) vs, ownt (.slice da m dc) us, box TV V v.cells, box TC Y (ccl hu k (.slice b m d)), box TC X (ccl ht h (.slice a n c))] from ((List.perm_middle (l₁ := [box TC D (ccl hu k (.slice da m dc))])).trans (.cons _ ((List.perm_middle (l₁ := [])).trans (.cons _ ((List.perm_middle (l₁ := [ownt (.slice da m dc) us])).trans (.cons _ ((List.perm_middle (l₁ := [])).trans (.cons _ ((List.perm_middle (l₁ := [])).trans (.cons _ ((List.perm_middle (l₁ := [])).trans (.cons _ ((List.perm_middle (l₁ := [])).trans (.cons _ (.refl _))))))))))))))))⟩
      · rw [if_pos (by kernel_rfl)]
        refine wp_value (w' := u1.alloc (.cells zcm.toArray TC)) (.pointer (some ⟨u1.heap.size, 0, none⟩)) (by kernel_rfl) ?_
        try simp only [List.getElem_toArray, List.getElem_cons_succ, List.getElem_cons_zero, Act.put, List.setIfInBounds_toArray, List.set_cons_zero, List.set_cons_succ]
        obtain ⟨C, eC⟩ : ∃ A, u1.heap.size = A := ⟨_, rfl⟩
        have hbC := bag_box (T := TC) (cs := zcm) (X := C) B1.out eC.symm (w' := u1.alloc (.cells zcm.toArray TC)) (by rw [← eC]; exact At.new _ _ _) (Below.alloc (Below.refl _ _) (Nat.le_refl _) _)
        rw [eC]
        clear eC
        generalize World.alloc u1 _ = u2 at *
        have B2 := WirS.hide hbC
        clear hbC B1
        refine hK.out _ _ (HSH.out _ (B2.out.all (box TC X (ccl ht h (.slice a n c))) (by simp)).1 (B2.out.all (box TC Y (ccl hu k (.slice b m d))) (by simp)).1) (fun hHeld => ?_)
        clear hK K
        refine wpAnyH_ready (rs := [1]) (by kernel_rfl) (by simp) ?_
        refine AllReadyH.cons rfl (fun K hK => ?_) AllReadyH.nil
        rw [if_pos (by kernel_rfl)]
        refine stepCallX (HCA.out u2 B2.out.low) (by kernel_rfl) ?_
        rintro e u3 ⟨ca, cc, rfl, ho, hnb, hb⟩
        refine ⟨_, rfl, ?_⟩
        try simp only [List.getElem_toArray, List.getElem_cons_succ, List.getElem_cons_zero, Act.put, List.setIfInBounds_toArray, List.set_cons_zero, List.set_cons_succ]
        have B3 := WirS.hide (bag_ownt B2.out ho hnb hb)
        clear ho hnb hb B2
        refine hK.out _ _ (HSH.out _ (B3.out.all (box TC X (ccl ht h (.slice a n c))) (by simp)).1 (B3.out.all (box TC Y (ccl hu k (.slice b m d))) (by simp)).1) (fun hHeld => ?_)
        clear hK K
        refine wpAnyH_ready (rs := [3]) (by kernel_rfl) (by simp) ?_
        refine AllReadyH.cons rfl (fun K hK => ?_) AllReadyH.nil
        rw [if_pos (by kernel_rfl)]
        refine stepCallX (HCB.out u3 B3.out.low) (by kernel_rfl) ?_
        rintro e u4 ⟨da, dc, rfl, ho, hnb, hb⟩
        refine ⟨_, rfl, ?_⟩
        try simp only [List.getElem_toArray, List.getElem_cons_succ, List.getElem_cons_zero, Act.put, List.setIfInBounds_toArray, List.set_cons_zero, List.set_cons_succ]
        have B4 := WirS.hide (bag_ownt B3.out ho hnb hb)
        clear ho hnb hb B3
        refine hK.out _ _ (HSH.out _ (B4.out.all (box TC X (ccl ht h (.slice a n c))) (by simp)).1 (B4.out.all (box TC Y (ccl hu k (.slice b m d))) (by simp)).1) (fun hHeld => ?_)
        clear hK K
        refine wpAnyH_ready (rs := [6]) (by kernel_rfl) (by simp) ?_
        refine AllReadyH.cons rfl (fun K hK => ?_) AllReadyH.nil
        rw [if_pos (by kernel_rfl)]
        have G6a := WirS.hide (B4.out.perm (show [ownt (.slice da m dc) us, ownt (.slice ca n cc) vs, box TC C zcm, box TC D zcm, box TV V v.cells, box TC Y (ccl hu k (.slice b m d)), box TC X (ccl ht h (.slice a n c))].Perm [box TC C zcm, ownt (.slice da m dc) us, ownt (.slice ca n cc) vs, box TC D zcm, box TV V v.cells, box TC Y (ccl hu k (.slice b m d)), box TC X (ccl ht h (.slice a n c))] from ((List.perm_middle (l₁ := [ownt (.slice da m dc) us, ownt (.slice ca n cc) vs])).trans (.cons _ ((List.perm_middle (l₁ := [])).trans (.cons _ ((List.perm_middle (l₁ := [])).trans (.cons _ ((List.perm_middle (l₁ := [])).trans (.cons _ ((List.perm_middle (l₁ := [])).trans (.cons _ ((List.perm_middle (l₁ := [])).trans (.cons _ ((List.perm_middle (l₁ := [])).trans (.cons _ (.refl _)))))))))))))))))
        clear B4
        refine wp_store_row TC (.tmp 7) (.tmp 26) (by kernel_rfl) C (ccl ht h (.slice ca n cc)).toArray (by kernel_rfl) (by kernel_rfl) TC zcm.toArray G6a.out.head (by rw [List.size_toArray, ccl_len _ _ _ HL.out]; kernel_rfl) (by rw [List.size_toArray, List.size_toArray, ccl_len _ _ _ HL.out]; rfl) (one_ccl _ _ _ _ _) ?_
        have G6 := WirS.hide (bag_row G6a.out (ccl ht h (.slice ca n cc)))
        clear G6a
        refine hK.out _ _ (HSH.out _ (G6.out.all (box TC X (ccl ht h (.slice a n c))) (by simp)).1 (G6.out.all (box TC Y (ccl hu k (.slice b m d))) (by simp)).1) (fun hHeld => ?_)
        clear hK K
        try simp only [Act.put]
        generalize World.setRow u4 C _ = y6 at *
        refine wpAnyH_ready (rs := [7]) (by kernel_rfl) (by simp) ?_
        refine AllReadyH.cons rfl (fun K hK => ?_) AllReadyH.nil
        rw [if_pos (by kernel_rfl)]
        have G7a := WirS.hide (G6.out.perm (show [box TC C (ccl ht h (.slice ca n cc)), ownt (.slice da m dc) us, ownt (.slice ca n cc) vs, box TC D zcm, box TV V v.cells, box TC Y (ccl hu k (.slice b m d)), box TC X (ccl ht h (.slice a n c))].Perm [box TC D zcm, box TC C (ccl ht h (.slice ca n cc)), ownt (.slice da m dc) us, ownt (.slice ca n cc) vs, box TV V v.cells, box TC Y (ccl hu k (.slice b m d)), box TC X (ccl ht h (.slice a n c))] from ((List.perm_middle (l₁ := [box TC C (ccl ht h (.slice ca n cc)), ownt (.slice da m dc) us, ownt (.slice ca n cc) vs])).trans (.cons _ ((List.perm_middle (l₁ := [])).trans (.cons _ ((List.perm_middle (l₁ := [])).trans (.cons _ ((List.perm_middle (l₁ := [])).trans (.cons _ ((List.perm_middle (l₁ := [])).trans (.cons _ ((List.perm_middle (l₁ := [])).trans (.cons _ ((List.perm_middle (l₁ := [])).trans (.cons _ (.refl _)))))))))))))))))
        clear G6
        refine wp_store_row TC (.tmp 8) (.tmp 28) (by kernel_rfl) D (ccl hu k (.slice da m dc)).toArray (by kernel_rfl) (by kernel_rfl) TC zcm.toArray G7a.out.head (by rw [List.size_toArray, ccl_len _ _ _ HK.out]; kernel_rfl) (by rw [List.size_toArray, List.size_toArray, ccl_len _ _ _ HK.out]; rfl) (one_ccl _ _ _ _ _) ?_
        have G7 := WirS.hide (bag_row G7a.out (ccl hu k (.slice da m dc)))
        clear G7a
        refine hK.out _ _ (HSH.out _ (G7.out.all (box TC X (ccl ht h (.slice a n c))) (by simp)).1 (G7.out.all (box TC Y (ccl hu k (.slice b m d))) (by simp)).1) (fun hHeld => ?_)
        clear hK K
        try simp only [Act.put]
        generalize World.setRow y6 D _ = y7 at *
        refine wpAnyH_done (by kernel_rfl) ?_ _
        refine NoPanic.normal ?_
        clear hHeld
        go_wp2_with fail
        go_meet
        exact ⟨C, D, ca, cc, da, dc, rfl, rfl, G7.out.perm (show [box TC D (ccl hu k (.slice da m dc)), box TC C (ccl ht h (.slice ca n cc)), ownt (.slice da m dc) us, ownt (.slice ca n cc) vs, box TV V v.cells, box TC Y (ccl hu k (.slice b m d)), box TC X (ccl ht h (.slice a n c))].Perm [box TC C (ccl ht h (.slice ca n cc)), box TC D (ccl hu k (.slice da m dc)), ownt (.slice ca n cc) vs, ownt (.slice da m dc) us, box TV V v.cells, box TC Y (ccl hu k (.slice b m d)), box TC X (ccl ht h (.slice a n c))] from ((List.perm_middle (l₁ := [box TC D (ccl hu k (.slice da m dc))])).trans (.cons _ ((List.perm_middle (l₁ := [])).trans (.cons _ ((List.perm_middle (l₁ := [ownt (.slice da m dc) us])).trans (.cons _ ((List.perm_middle (l₁ := [])).trans (.cons _ ((List.perm_middle (l₁ := [])).trans (.cons _ ((List.perm_middle (l₁ := [])).trans (.cons _ ((List.perm_middle (l₁ := [])).trans (.cons _ (.refl _))))))))))))))))⟩
  case rest =>
    obtain ⟨C, D, ca, cc, da, dc, rfl, rfl, hb5⟩ := hcut
    have H5 := WirS.hide hb5
    clear hb5 H4
    go_upto_region 4 with fail
    refine wp_region_lit ?_
    refine sL (by kernel_rfl) _ _ (by rfl) _ (by kernel_rfl) (H5.out.all (box TC C (ccl ht h (.slice ca n cc))) (by simp)).1 _ _ UC rfl (by kernel_rfl) (by rw [ccl_len _ _ _ HL.out]) ?_
    simp only [Act.put, List.setIfInBounds_toArray, List.set_cons_succ, List.set_cons_zero]
    refine sL (by kernel_rfl) _ _ (by rfl) _ (by kernel_rfl) (H5.out.all (box TV V v.cells) (by simp)).1 _ _ Try.underlying113 rfl (by kernel_rfl) (by rfl) ?_
    simp only [Act.put, List.setIfInBounds_toArray, List.set_cons_succ, List.set_cons_zero]
    refine sCx (by kernel_rfl) (by kernel_rfl) (HAD.out wc ca cc ((show OwnT wc (.slice ca n cc) vs from (H5.out.all (ownt (.slice ca n cc) vs) (by simp)).1).vin)) ?_
    rintro e p4 ⟨xxa, xxn, xxc, rfl, ho, hnb, hb⟩
    refine ⟨_, rfl, ?_⟩
    simp only [Act.put, List.setIfInBounds_toArray, List.set_cons_succ, List.set_cons_zero]
    obtain rfl : an = xxn := by obtain ⟨xa, xc, e⟩ := ho.len_of; cases e; exact HAN.out.symm
    have hb1 := bag_ownt H5.out ho hnb hb
    clear ho hnb hb H5
    refine sV (.tuple #[.agg (ccl ah ak (.slice xxa an xxc)).toArray, .int .i64 ae]) (p4) (by kernel_rfl) (by kernel_rfl) ?_
    simp only [Act.put, List.setIfInBounds_toArray, List.set_cons_succ, List.set_cons_zero]
    refine sV (.agg (ccl ah ak (.slice xxa an xxc)).toArray) (p4) (by kernel_rfl) (by kernel_rfl) ?_
    simp only [Act.put, List.setIfInBounds_toArray, List.set_cons_succ, List.set_cons_zero]
    refine sV (.int .i64 ae) (p4) (by kernel_rfl) (by kernel_rfl) ?_
    simp only [Act.put, List.setIfInBounds_toArray, List.set_cons_succ, List.set_cons_zero]
    refine sV (.pointer (some ⟨p4.heap.size, 0, none⟩)) (p4.alloc (.cells zcm.toArray TC)) (by kernel_rfl) (by kernel_rfl) ?_
    simp only [Act.put, List.setIfInBounds_toArray, List.set_cons_succ, List.set_cons_zero]
    obtain ⟨Z4, eZ4⟩ : ∃ A, p4.heap.size = A := ⟨_, rfl⟩
    have hbZ4 := bag_box (T := TC) (cs := zcm) (X := Z4) hb1 eZ4.symm (w' := p4.alloc (.cells zcm.toArray TC)) (by rw [← eZ4]; exact At.new _ _ _) (Below.alloc (Below.refl _ _) (Nat.le_refl _) _)
    rw [eZ4]
    clear eZ4
    generalize World.alloc p4 _ = q4 at *
    refine stepStore (by rfl) _ _ _ (by rfl) Z4 (ccl ah ak (.slice xxa an xxc)) (by kernel_rfl) (by kernel_rfl) hbZ4.head 34 (by kernel_rfl) (by rfl) (ccl_len _ _ _ HAKL.out) (one_ccl _ _ _ _ _) ?_
    simp only [Act.put]
    have K4 := WirS.hide (bag_row hbZ4 (ccl ah ak (.slice xxa an xxc)))
    clear hb1 hbZ4
    generalize World.setRow q4 Z4 _ = r4 at *
    go_upto_region 5 with fail
    refine wp_region_lit ?_
    refine sL (by kernel_rfl) _ _ (by rfl) _ (by kernel_rfl) (K4.out.all (box TC X (ccl ht h (.slice a n c))) (by simp)).1 _ _ UC rfl (by kernel_rfl) (by rw [ccl_len _ _ _ HL.out]) ?_
    simp only [Act.put, List.setIfInBounds_toArray, List.set_cons_succ, List.set_cons_zero]
    refine sL (by kernel_rfl) _ _ (by rfl) _ (by kernel_rfl) (K4.out.all (box TV V v.cells) (by simp)).1 _ _ Try.underlying113 rfl (by kernel_rfl) (by rfl) ?_
    simp only [Act.put, List.setIfInBounds_toArray, List.set_cons_succ, List.set_cons_zero]
    refine sCx (by kernel_rfl) (by kernel_rfl) (HRA.out r4 K4.out.low) ?_
    rintro e p5 ⟨yya, yyn, yyc, rfl, ho, hnb, hb⟩
    refine ⟨_, rfl, ?_⟩
    simp only [Act.put, List.setIfInBounds_toArray, List.set_cons_succ, List.set_cons_zero]
    obtain rfl : an = yyn := by obtain ⟨xa, xc, e⟩ := ho.len_of; cases e; exact HAN.out.symm
    have hb1 := bag_ownt K4.out ho hnb hb
    clear ho hnb hb K4
    refine sV (.tuple #[.agg (ccl ah ak (.slice yya an yyc)).toArray, .int .i64 ae]) (p5) (by kernel_rfl) (by kernel_rfl) ?_
    simp only [Act.put, List.setIfInBounds_toArray, List.set_cons_succ, List.set_cons_zero]
    refine sV (.agg (ccl ah ak (.slice yya an yyc)).toArray) (p5) (by kernel_rfl) (by kernel_rfl) ?_
    simp only [Act.put, List.setIfInBounds_toArray, List.set_cons_succ, List.set_cons_zero]
    refine sV (.int .i64 ae) (p5) (by kernel_rfl) (by kernel_rfl) ?_
    simp only [Act.put, List.setIfInBounds_toArray, List.set_cons_succ, List.set_cons_zero]
    refine sV (.pointer (some ⟨p5.heap.size, 0, none⟩)) (p5.alloc (.cells zcm.toArray TC)) (by kernel_rfl) (by kernel_rfl) ?_
    simp only [Act.put, List.setIfInBounds_toArray, List.set_cons_succ, List.set_cons_zero]
    obtain ⟨Z5, eZ5⟩ : ∃ A, p5.heap.size = A := ⟨_, rfl⟩
    have hbZ5 := bag_box (T := TC) (cs := zcm) (X := Z5) hb1 eZ5.symm (w' := p5.alloc (.cells zcm.toArray TC)) (by rw [← eZ5]; exact At.new _ _ _) (Below.alloc (Below.refl _ _) (Nat.le_refl _) _)
    rw [eZ5]
    clear eZ5
    generalize World.alloc p5 _ = q5 at *
    refine stepStore (by rfl) _ _ _ (by rfl) Z5 (ccl ah ak (.slice yya an yyc)) (by kernel_rfl) (by kernel_rfl) hbZ5.head 34 (by kernel_rfl) (by rfl) (ccl_len _ _ _ HAKL.out) (one_ccl _ _ _ _ _) ?_
    simp only [Act.put]
    have K5 := WirS.hide (bag_row hbZ5 (ccl ah ak (.slice yya an yyc)))
    clear hb1 hbZ5
    generalize World.setRow q5 Z5 _ = r5 at *
    go_upto_region 6 with fail
    refine wp_region_lit ?_
    refine sL (by kernel_rfl) _ _ (by rfl) _ (by kernel_rfl) (K5.out.all (box TC C (ccl ht h (.slice ca n cc))) (by simp)).1 _ _ UC rfl (by kernel_rfl) (by rw [ccl_len _ _ _ HL.out]) ?_
    simp only [Act.put, List.setIfInBounds_toArray, List.set_cons_succ, List.set_cons_zero]
    refine sL (by kernel_rfl) _ _ (by rfl) _ (by kernel_rfl) (K5.out.all (box TC D (ccl hu k (.slice da m dc))) (by simp)).1 _ _ UC rfl (by kernel_rfl) (by rw [ccl_len _ _ _ HK.out]) ?_
    simp only [Act.put, List.setIfInBounds_toArray, List.set_cons_succ, List.set_cons_zero]
    refine sCx (by kernel_rfl) (by kernel_rfl) (HJN.out r5 ca da cc dc ((show OwnT r5 (.slice ca n cc) vs from (K5.out.all (ownt (.slice ca n cc) vs) (by simp)).1).vin) ((show OwnT r5 (.slice da m dc) us from (K5.out.all (ownt (.slice da m dc) us) (by simp)).1).vin)) ?_
    rintro e p6 ⟨ppa, ppn, ppc, rfl, ho, hnb, hb⟩
    refine ⟨_, rfl, ?_⟩
    simp only [Act.put, List.setIfInBounds_toArray, List.set_cons_succ, List.set_cons_zero]
    obtain rfl : jn = ppn := by obtain ⟨xa, xc, e⟩ := ho.len_of; cases e; exact HJN0.out.symm
    have hb1 := bag_ownt K5.out ho hnb hb
    clear ho hnb hb K5
    refine sV (.tuple #[.agg (ccl jht jk (.slice ppa jn ppc)).toArray, .int .i64 je]) (p6) (by kernel_rfl) (by kernel_rfl) ?_
    simp only [Act.put, List.setIfInBounds_toArray, List.set_cons_succ, List.set_cons_zero]
    refine sV (.agg (ccl jht jk (.slice ppa jn ppc)).toArray) (p6) (by kernel_rfl) (by kernel_rfl) ?_
    simp only [Act.put, List.setIfInBounds_toArray, List.set_cons_succ, List.set_cons_zero]
    refine sV (.int .i64 je) (p6) (by kernel_rfl) (by kernel_rfl) ?_
    simp only [Act.put, List.setIfInBounds_toArray, List.set_cons_succ, List.set_cons_zero]
    refine sV (.pointer (some ⟨p6.heap.size, 0, none⟩)) (p6.alloc (.cells zcm.toArray TC)) (by kernel_rfl) (by kernel_rfl) ?_
    simp only [Act.put, List.setIfInBounds_toArray, List.set_cons_succ, List.set_cons_zero]
    obtain ⟨Z6, eZ6⟩ : ∃ A, p6.heap.size = A := ⟨_, rfl⟩
    have hbZ6 := bag_box (T := TC) (cs := zcm) (X := Z6) hb1 eZ6.symm (w' := p6.alloc (.cells zcm.toArray TC)) (by rw [← eZ6]; exact At.new _ _ _) (Below.alloc (Below.refl _ _) (Nat.le_refl _) _)
    rw [eZ6]
    clear eZ6
    generalize World.alloc p6 _ = q6 at *
    refine stepStore (by rfl) _ _ _ (by rfl) Z6 (ccl jht jk (.slice ppa jn ppc)) (by kernel_rfl) (by kernel_rfl) hbZ6.head 34 (by kernel_rfl) (by rfl) (ccl_len _ _ _ HJKL.out) (one_ccl _ _ _ _ _) ?_
    simp only [Act.put]
    have K6 := WirS.hide (bag_row hbZ6 (ccl jht jk (.slice ppa jn ppc)))
    clear hb1 hbZ6
    generalize World.setRow q6 Z6 _ = r6 at *
    go_upto_region 7 with fail
    refine wp_region_lit ?_
    refine sL (by kernel_rfl) _ _ (by rfl) _ (by kernel_rfl) (K6.out.all (box TC X (ccl ht h (.slice a n c))) (by simp)).1 _ _ UC rfl (by kernel_rfl) (by rw [ccl_len _ _ _ HL.out]) ?_
    simp only [Act.put, List.setIfInBounds_toArray, List.set_cons_succ, List.set_cons_zero]
    refine sL (by kernel_rfl) _ _ (by rfl) _ (by kernel_rfl) (K6.out.all (box TC Y (ccl hu k (.slice b m d))) (by simp)).1 _ _ UC rfl (by kernel_rfl) (by rw [ccl_len _ _ _ HK.out]) ?_
    simp only [Act.put, List.setIfInBounds_toArray, List.set_cons_succ, List.set_cons_zero]
    refine sCx (by kernel_rfl) (by kernel_rfl) (HRJ.out r6 K6.out.low) ?_
    rintro e p7 ⟨qqa, qqn, qqc, rfl, ho, hnb, hb⟩
    refine ⟨_, rfl, ?_⟩
    simp only [Act.put, List.setIfInBounds_toArray, List.set_cons_succ, List.set_cons_zero]
    obtain rfl : jn = qqn := by obtain ⟨xa, xc, e⟩ := ho.len_of; cases e; exact HJN0.out.symm
    have hb1 := bag_ownt K6.out ho hnb hb
    clear ho hnb hb K6
    refine sV (.tuple #[.agg (ccl jht jk (.slice qqa jn qqc)).toArray, .int .i64 je]) (p7) (by kernel_rfl) (by kernel_rfl) ?_
    simp only [Act.put, List.setIfInBounds_toArray, List.set_cons_succ, List.set_cons_zero]
    refine sV (.agg (ccl jht jk (.slice qqa jn qqc)).toArray) (p7) (by kernel_rfl) (by kernel_rfl) ?_
    simp only [Act.put, List.setIfInBounds_toArray, List.set_cons_succ, List.set_cons_zero]
    refine sV (.int .i64 je) (p7) (by kernel_rfl) (by kernel_rfl) ?_
    simp only [Act.put, List.setIfInBounds_toArray, List.set_cons_succ, List.set_cons_zero]
    refine sV (.pointer (some ⟨p7.heap.size, 0, none⟩)) (p7.alloc (.cells zcm.toArray TC)) (by kernel_rfl) (by kernel_rfl) ?_
    simp only [Act.put, List.setIfInBounds_toArray, List.set_cons_succ, List.set_cons_zero]
    obtain ⟨Z7, eZ7⟩ : ∃ A, p7.heap.size = A := ⟨_, rfl⟩
    have hbZ7 := bag_box (T := TC) (cs := zcm) (X := Z7) hb1 eZ7.symm (w' := p7.alloc (.cells zcm.toArray TC)) (by rw [← eZ7]; exact At.new _ _ _) (Below.alloc (Below.refl _ _) (Nat.le_refl _) _)
    rw [eZ7]
    clear eZ7
    generalize World.alloc p7 _ = q7 at *
    refine stepStore (by rfl) _ _ _ (by rfl) Z7 (ccl jht jk (.slice qqa jn qqc)) (by kernel_rfl) (by kernel_rfl) hbZ7.head 34 (by kernel_rfl) (by rfl) (ccl_len _ _ _ HJKL.out) (one_ccl _ _ _ _ _) ?_
    simp only [Act.put]
    have K7 := WirS.hide (bag_row hbZ7 (ccl jht jk (.slice qqa jn qqc)))
    clear hb1 hbZ7
    generalize World.setRow q7 Z7 _ = r7 at *
    go_upto_region 8 with fail
    refine wp_region_lit ?_
    refine sL (by kernel_rfl) _ _ (by rfl) _ (by kernel_rfl) (K7.out.all (box TC Z4 (ccl ah ak (.slice xxa an xxc))) (by simp)).1 _ _ UC rfl (by kernel_rfl) (by rw [ccl_len _ _ _ HAKL.out]) ?_
    simp only [Act.put, List.setIfInBounds_toArray, List.set_cons_succ, List.set_cons_zero]
    refine sL (by kernel_rfl) _ _ (by rfl) _ (by kernel_rfl) (K7.out.all (box TC Z5 (ccl ah ak (.slice yya an yyc))) (by simp)).1 _ _ UC rfl (by kernel_rfl) (by rw [ccl_len _ _ _ HAKL.out]) ?_
    simp only [Act.put, List.setIfInBounds_toArray, List.set_cons_succ, List.set_cons_zero]
    refine sC (R := fun w' => Below r7.heap.size r7 w') (by kernel_rfl) (by kernel_rfl) (CmN.sc_any r7 ah ak xxa yya an xxc yyc av HAKL.out ((show OwnT r7 (.slice xxa an xxc) av from (K7.out.all (ownt (.slice xxa an xxc) av) (by simp)).1).vin) ((show OwnT r7 (.slice yya an yyc) av from (K7.out.all (ownt (.slice yya an yyc) av) (by simp)).1).vin)) ?_
    rintro s1 hb
    simp only [Act.put, List.setIfInBounds_toArray, List.set_cons_succ, List.set_cons_zero]
    have S1 := WirS.hide (K7.out.more hb)
    clear hb K7
    refine sV (.bool true) (s1) (by kernel_rfl) (by kernel_rfl) ?_
    simp only [Act.put, List.setIfInBounds_toArray, List.set_cons_succ, List.set_cons_zero]
    refine sV (.int .i64 ae) (s1) (by kernel_rfl) (by kernel_rfl) ?_
    simp only [Act.put, List.setIfInBounds_toArray, List.set_cons_succ, List.set_cons_zero]
    refine sV (.int .i64 ae) (s1) (by kernel_rfl) (by kernel_rfl) ?_
    simp only [Act.put, List.setIfInBounds_toArray, List.set_cons_succ, List.set_cons_zero]
    refine sB (by kernel_rfl) .eql _ _ _ _ (by rfl) (.int .i64 ae) (.int .i64 ae) (by kernel_rfl) (by kernel_rfl) (.bool true) (eqE ae s1) (by kernel_rfl) ?_
    simp only [Act.put, List.setIfInBounds_toArray, List.set_cons_succ, List.set_cons_zero]
    refine sV (.bool true) (s1) (by kernel_rfl) (by kernel_rfl) ?_
    simp only [Act.put, List.setIfInBounds_toArray, List.set_cons_succ, List.set_cons_zero]
    refine sV (.bool true) (s1) (by kernel_rfl) (by kernel_rfl) ?_
    simp only [Act.put, List.setIfInBounds_toArray, List.set_cons_succ, List.set_cons_zero]
    refine sL (by kernel_rfl) _ _ (by rfl) _ (by kernel_rfl) (S1.out.all (box TC Z6 (ccl jht jk (.slice ppa jn ppc))) (by simp)).1 _ _ UC rfl (by kernel_rfl) (by rw [ccl_len _ _ _ HJKL.out]) ?_
    simp only [Act.put, List.setIfInBounds_toArray, List.set_cons_succ, List.set_cons_zero]
    refine sL (by kernel_rfl) _ _ (by rfl) _ (by kernel_rfl) (S1.out.all (box TC Z7 (ccl jht jk (.slice qqa jn qqc))) (by simp)).1 _ _ UC rfl (by kernel_rfl) (by rw [ccl_len _ _ _ HJKL.out]) ?_
    simp only [Act.put, List.setIfInBounds_toArray, List.set_cons_succ, List.set_cons_zero]
    refine sC (R := fun w' => Below s1.heap.size s1 w') (by kernel_rfl) (by kernel_rfl) (CmN.sc_any s1 jht jk ppa qqa jn ppc qqc jv HJKL.out ((show OwnT s1 (.slice ppa jn ppc) jv from (S1.out.all (ownt (.slice ppa jn ppc) jv) (by simp)).1).vin) ((show OwnT s1 (.slice qqa jn qqc) jv from (S1.out.all (ownt (.slice qqa jn qqc) jv) (by simp)).1).vin)) ?_
    rintro s2 hb
    simp only [Act.put, List.setIfInBounds_toArray, List.set_cons_succ, List.set_cons_zero]
    have S2 := WirS.hide (S1.out.more hb)
    clear hb S1
    refine sV (.bool true) (s2) (by kernel_rfl) (by kernel_rfl) ?_
    simp only [Act.put, List.setIfInBounds_toArray, List.set_cons_succ, List.set_cons_zero]
    refine sV (.bool true) (s2) (by kernel_rfl) (by kernel_rfl) ?_
    simp only [Act.put, List.setIfInBounds_toArray, List.set_cons_succ, List.set_cons_zero]
    refine sV (.int .i64 je) (s2) (by kernel_rfl) (by kernel_rfl) ?_
    simp only [Act.put, List.setIfInBounds_toArray, List.set_cons_succ, List.set_cons_zero]
    refine sV (.int .i64 je) (s2) (by kernel_rfl) (by kernel_rfl) ?_
    simp only [Act.put, List.setIfInBounds_toArray, List.set_cons_succ, List.set_cons_zero]
    refine sB (by kernel_rfl) .eql _ _ _ _ (by rfl) (.int .i64 je) (.int .i64 je) (by kernel_rfl) (by kernel_rfl) (.bool true) (eqE je s2) (by kernel_rfl) ?_
    simp only [Act.put, List.setIfInBounds_toArray, List.set_cons_succ, List.set_cons_zero]
    refine sV (.bool true) (s2) (by kernel_rfl) (by kernel_rfl) ?_
    simp only [Act.put, List.setIfInBounds_toArray, List.set_cons_succ, List.set_cons_zero]
    go_upto_region 9 with fail
    refine wp_region_lit ?_
    refine sL (by kernel_rfl) _ _ (by rfl) _ (by kernel_rfl) (S2.out.all (box TC Z4 (ccl ah ak (.slice xxa an xxc))) (by simp)).1 _ _ UC rfl (by kernel_rfl) (by rw [ccl_len _ _ _ HAKL.out]) ?_
    simp only [Act.put, List.setIfInBounds_toArray, List.set_cons_succ, List.set_cons_zero]
    have hbp := S2.out.perm (show [box TC Z7 (ccl jht jk (.slice qqa jn qqc)), ownt (.slice qqa jn qqc) jv, box TC Z6 (ccl jht jk (.slice ppa jn ppc)), ownt (.slice ppa jn ppc) jv, box TC Z5 (ccl ah ak (.slice yya an yyc)), ownt (.slice yya an yyc) av, box TC Z4 (ccl ah ak (.slice xxa an xxc)), ownt (.slice xxa an xxc) av, box TC C (ccl ht h (.slice ca n cc)), box TC D (ccl hu k (.slice da m dc)), ownt (.slice ca n cc) vs, ownt (.slice da m dc) us, box TV V v.cells, box TC Y (ccl hu k (.slice b m d)), box TC X (ccl ht h (.slice a n c))].Perm [ownt (.slice xxa an xxc) av, box TC Z7 (ccl jht jk (.slice qqa jn qqc)), ownt (.slice qqa jn qqc) jv, box TC Z6 (ccl jht jk (.slice ppa jn ppc)), ownt (.slice ppa jn ppc) jv, box TC Z5 (ccl ah ak (.slice yya an yyc)), ownt (.slice yya an yyc) av, box TC Z4 (ccl ah ak (.slice xxa an xxc)), box TC C (ccl ht h (.slice ca n cc)), box TC D (ccl hu k (.slice da m dc)), ownt (.slice ca n cc) vs, ownt (.slice da m dc) us, box TV V v.cells, box TC Y (ccl hu k (.slice b m d)), box TC X (ccl ht h (.slice a n c))] from ((List.perm_middle (l₁ := [box TC Z7 (ccl jht jk (.slice qqa jn qqc)), ownt (.slice qqa jn qqc) jv, box TC Z6 (ccl jht jk (.slice ppa jn ppc)), ownt (.slice ppa jn ppc) jv, box TC Z5 (ccl ah ak (.slice yya an yyc)), ownt (.slice yya an yyc) av, box TC Z4 (ccl ah ak (.slice xxa an xxc))])).trans (.cons _ ((List.perm_middle (l₁ := [])).trans (.cons _ ((List.perm_middle (l₁ := [])).trans (.cons _ ((List.perm_middle (l₁ := [])).trans (.cons _ ((List.perm_middle (l₁ := [])).trans (.cons _ ((List.perm_middle (l₁ := [])).trans (.cons _ ((List.perm_middle (l₁ := [])).trans (.cons _ ((List.perm_middle (l₁ := [])).trans (.cons _ ((List.perm_middle (l₁ := [])).trans (.cons _ ((List.perm_middle (l₁ := [])).trans (.cons _ ((List.perm_middle (l₁ := [])).trans (.cons _ ((List.perm_middle (l₁ := [])).trans (.cons _ ((List.perm_middle (l₁ := [])).trans (.cons _ ((List.perm_middle (l₁ := [])).trans (.cons _ ((List.perm_middle (l₁ := [])).trans (.cons _ (.refl _))))))))))))))))))))))))))))))))
    refine sC (R := fun w' => Fr (fun k => (Value.slice xxa an xxc).ownBlock = some k) s2 w') (by kernel_rfl) (by kernel_rfl) (CmOv.over_any s2 ah ak xxa an xxc av HAKL.out hbp.head HAVL.out) ?_
    rintro s3 hf
    simp only [Act.put, List.setIfInBounds_toArray, List.set_cons_succ, List.set_cons_zero]
    have S3 := WirS.hide (hbp.act (o' := gone) hf trivial (fun _ h => h.elim)).drop
    clear hbp hf S2
    go_upto_region 10 with fail
    refine wp_region_lit ?_
    refine sL (by kernel_rfl) _ _ (by rfl) _ (by kernel_rfl) (S3.out.all (box TC Z6 (ccl jht jk (.slice ppa jn ppc))) (by simp)).1 _ _ UC rfl (by kernel_rfl) (by rw [ccl_len _ _ _ HJKL.out]) ?_
    simp only [Act.put, List.setIfInBounds_toArray, List.set_cons_succ, List.set_cons_zero]
    have hbp := S3.out.perm (show [box TC Z7 (ccl jht jk (.slice qqa jn qqc)), ownt (.slice qqa jn qqc) jv, box TC Z6 (ccl jht jk (.slice ppa jn ppc)), ownt (.slice ppa jn ppc) jv, box TC Z5 (ccl ah ak (.slice yya an yyc)), ownt (.slice yya an yyc) av, box TC Z4 (ccl ah ak (.slice xxa an xxc)), box TC C (ccl ht h (.slice ca n cc)), box TC D (ccl hu k (.slice da m dc)), ownt (.slice ca n cc) vs, ownt (.slice da m dc) us, box TV V v.cells, box TC Y (ccl hu k (.slice b m d)), box TC X (ccl ht h (.slice a n c))].Perm [ownt (.slice ppa jn ppc) jv, box TC Z7 (ccl jht jk (.slice qqa jn qqc)), ownt (.slice qqa jn qqc) jv, box TC Z6 (ccl jht jk (.slice ppa jn ppc)), box TC Z5 (ccl ah ak (.slice yya an yyc)), ownt (.slice yya an yyc) av, box TC Z4 (ccl ah ak (.slice xxa an xxc)), box TC C (ccl ht h (.slice ca n cc)), box TC D (ccl hu k (.slice da m dc)), ownt (.slice ca n cc) vs, ownt (.slice da m dc) us, box TV V v.cells, box TC Y (ccl hu k (.slice b m d)), box TC X (ccl ht h (.slice a n c))] from ((List.perm_middle (l₁ := [box TC Z7 (ccl jht jk (.slice qqa jn qqc)), ownt (.slice qqa jn qqc) jv, box TC Z6 (ccl jht jk (.slice ppa jn ppc))])).trans (.cons _ ((List.perm_middle (l₁ := [])).trans (.cons _ ((List.perm_middle (l₁ := [])).trans (.cons _ ((List.perm_middle (l₁ := [])).trans (.cons _ ((List.perm_middle (l₁ := [])).trans (.cons _ ((List.perm_middle (l₁ := [])).trans (.cons _ ((List.perm_middle (l₁ := [])).trans (.cons _ ((List.perm_middle (l₁ := [])).trans (.cons _ ((List.perm_middle (l₁ := [])).trans (.cons _ ((List.perm_middle (l₁ := [])).trans (.cons _ ((List.perm_middle (l₁ := [])).trans (.cons _ ((List.perm_middle (l₁ := [])).trans (.cons _ ((List.perm_middle (l₁ := [])).trans (.cons _ ((List.perm_middle (l₁ := [])).trans (.cons _ (.refl _))))))))))))))))))))))))))))))
    refine sC (R := fun w' => Fr (fun k => (Value.slice ppa jn ppc).ownBlock = some k) s3 w') (by kernel_rfl) (by kernel_rfl) (CmOv.over_any s3 jht jk ppa jn ppc jv HJKL.out hbp.head HJVL.out) ?_
    rintro s4 hf
    simp only [Act.put, List.setIfInBounds_toArray, List.set_cons_succ, List.set_cons_zero]
    have S4 := WirS.hide (hbp.act (o' := gone) hf trivial (fun _ h => h.elim)).drop
    clear hbp hf S3
    go_upto_region 11 with fail
    refine wp_region_lit ?_
    refine sV (.bool true) (s4) (by kernel_rfl) (by kernel_rfl) ?_
    simp only [Act.put, List.setIfInBounds_toArray, List.set_cons_succ, List.set_cons_zero]
    refine sV (.bool true) (s4) (by kernel_rfl) (by kernel_rfl) ?_
    simp only [Act.put, List.setIfInBounds_toArray, List.set_cons_succ, List.set_cons_zero]
    refine sL (by kernel_rfl) _ _ (by rfl) _ (by kernel_rfl) (S4.out.all (box TC C (ccl ht h (.slice ca n cc))) (by simp)).1 _ _ UC rfl (by kernel_rfl) (by rw [ccl_len _ _ _ HL.out]) ?_
    simp only [Act.put, List.setIfInBounds_toArray, List.set_cons_succ, List.set_cons_zero]
    refine sL (by kernel_rfl) _ _ (by rfl) _ (by kernel_rfl) (S4.out.all (box TC X (ccl ht h (.slice a n c))) (by simp)).1 _ _ UC rfl (by kernel_rfl) (by rw [ccl_len _ _ _ HL.out]) ?_
    simp only [Act.put, List.setIfInBounds_toArray, List.set_cons_succ, List.set_cons_zero]
    refine sC (R := fun w' => Below s4.heap.size s4 w') (by kernel_rfl) (by kernel_rfl) (CmN.sc_any s4 ht h ca a n cc c vs HL.out ((show OwnT s4 (.slice ca n cc) vs from (S4.out.all (ownt (.slice ca n cc) vs) (by simp)).1).vin) (HV.out.below S4.out.low)) ?_
    rintro s5 hb
    simp only [Act.put, List.setIfInBounds_toArray, List.set_cons_succ, List.set_cons_zero]
    have S5 := WirS.hide (S4.out.more hb)
    clear hb S4
    refine sV (.bool true) (s5) (by kernel_rfl) (by kernel_rfl) ?_
    simp only [Act.put, List.setIfInBounds_toArray, List.set_cons_succ, List.set_cons_zero]
    refine sV (.bool true) (s5) (by kernel_rfl) (by kernel_rfl) ?_
    simp only [Act.put, List.setIfInBounds_toArray, List.set_cons_succ, List.set_cons_zero]
    refine sL (by kernel_rfl) _ _ (by rfl) _ (by kernel_rfl) (S5.out.all (box TC D (ccl hu k (.slice da m dc))) (by simp)).1 _ _ UC rfl (by kernel_rfl) (by rw [ccl_len _ _ _ HK.out]) ?_
    simp only [Act.put, List.setIfInBounds_toArray, List.set_cons_succ, List.set_cons_zero]
    refine sL (by kernel_rfl) _ _ (by rfl) _ (by kernel_rfl) (S5.out.all (box TC Y (ccl hu k (.slice b m d))) (by simp)).1 _ _ UC rfl (by kernel_rfl) (by rw [ccl_len _ _ _ HK.out]) ?_
    simp only [Act.put, List.setIfInBounds_toArray, List.set_cons_succ, List.set_cons_zero]
    refine sC (R := fun w' => Below s5.heap.size s5 w') (by kernel_rfl) (by kernel_rfl) (CmN.sc_any s5 hu k da b m dc d us HK.out ((show OwnT s5 (.slice da m dc) us from (S5.out.all (ownt (.slice da m dc) us) (by simp)).1).vin) (HW.out.below S5.out.low)) ?_
    rintro s6 hb
    simp only [Act.put, List.setIfInBounds_toArray, List.set_cons_succ, List.set_cons_zero]
    have S6 := WirS.hide (S5.out.more hb)
    clear hb S5
    refine sV (.bool true) (s6) (by kernel_rfl) (by kernel_rfl) ?_
    simp only [Act.put, List.setIfInBounds_toArray, List.set_cons_succ, List.set_cons_zero]
    refine sV (.bool true) (s6) (by kernel_rfl) (by kernel_rfl) ?_
    simp only [Act.put, List.setIfInBounds_toArray, List.set_cons_succ, List.set_cons_zero]
    refine sC (R := fun w' => Below s6.heap.size s6 w') (by kernel_rfl) (by kernel_rfl) (CmQ.awake_any s6) ?_
    rintro s7 hb
    simp only [Act.put, List.setIfInBounds_toArray, List.set_cons_succ, List.set_cons_zero]
    have S7 := WirS.hide (S6.out.more hb)
    clear hb S6
    refine sV (.bool true) (s7) (by kernel_rfl) (by kernel_rfl) ?_
    simp only [Act.put, List.setIfInBounds_toArray, List.set_cons_succ, List.set_cons_zero]
    go_wp2_with fail
    go_ret
    exact ⟨rfl, S7.out.low⟩
end CmAe
end Go.Proofs.Ytplinpbmncccoaa

namespace Go.Proofs.Ytplinpbmncccoaa
namespace CmAf
open Go.RowKit Go.WideShapes Go.ChangeShapes Go.ChangeAt
open BlkM WirM WirS CmA CmP CmB CmE CmI CmJ CmT CmU CmV CmXB CmAd CmAe
open WirX (Thg Bag)
open WirAA (box bag_box bag_set)
open WirAB (sCx)

set_option maxRecDepth 100000 in
theorem vote_in {H : Type} {enc : TypeId × Value → H} {W : World} {base : Nat} {v : Value} {d : DataW H} {p : List MemPlace} (hv : Value.okWide Try.prog W .any base 113 v) (h : DataW.Trod enc Try.prog W 0 (fun _ => true) true 113 v d p) :
    ∃ t : Vt, v = .agg t.cells.toArray ∧ t.ok := by
  obtain ⟨cs, rfl, _⟩ := okWide_struct Try.underlying113 hv
  obtain ⟨fuel, hf⟩ := h
  obtain ⟨t, e, hw⟩ := CmW.vote_open hf
  have e' : cs.toList = t.cells := e
  refine ⟨t, ?_, hw⟩
  rw [← e']
set_option maxRecDepth 20000 in
set_option maxHeartbeats 16000000 in
theorem adds_la (w : World) (ht hu : Int) (h k : List Int) (a b : Option Addr) (n c m d : Nat) (v : Vt) (hl : h.length = 32) (kl : k.length = 32) (hn : 70 < n) : Calls Try.prog 14 #[.agg (ccl ht h (.slice a n c)).toArray, .agg (ccl hu k (.slice b m d)).toArray, .agg #[.int .i64 v.at', .int .u64 v.sg]] w fun e w' => e = .returned (.bool true) ∧ Below w.heap.size w w' := by
  have HL := WirS.hide hl
  have HK := WirS.hide kl
  have HLA := WirS.hide (fun U => long_any U ht h a n c hl)
  have HLB := WirS.hide (fun U => long_any U hu k b m d kl)
  rw [decide_eq_true hn] at HLA
  clear hl kl hn
  go_enter Try.func14, Try.ntmps14
  go_upto_region 0 with fail
  refine wp_region_lit ?_
  refine sV (.pointer (some ⟨w.heap.size, 0, none⟩)) (w.alloc (.cells (ccl ht h (.slice a n c)).toArray TC)) (by kernel_rfl) (by kernel_rfl) ?_
  simp only [Act.put, List.setIfInBounds_toArray, List.set_cons_succ, List.set_cons_zero]
  have hbX := bag_box (w0 := w) (T := TC) (cs := (ccl ht h (.slice a n c))) (X := w.heap.size) (Bag.nil (Below.refl _ _)) rfl (w' := w.alloc (.cells (ccl ht h (.slice a n c)).toArray TC)) (At.new _ _ _) (Below.alloc (Below.refl _ _) (Nat.le_refl _) _)
  obtain ⟨X, eX⟩ : ∃ A, w.heap.size = A := ⟨_, rfl⟩
  rw [eX] at hbX ⊢
  clear eX
  generalize World.alloc w _ = x0 at *
  refine sV (.pointer (some ⟨x0.heap.size, 0, none⟩)) (x0.alloc (.cells (ccl hu k (.slice b m d)).toArray TC)) (by kernel_rfl) (by kernel_rfl) ?_
  simp only [Act.put, List.setIfInBounds_toArray, List.set_cons_succ, List.set_cons_zero]
  obtain ⟨Y, eY⟩ : ∃ A, x0.heap.size = A := ⟨_, rfl⟩
  have hbY := bag_box (T := TC) (cs := (ccl hu k (.slice b m d))) (X := Y) hbX eY.symm (w' := x0.alloc (.cells (ccl hu k (.slice b m d)).toArray TC)) (by rw [← eY]; exact At.new _ _ _) (Below.alloc (Below.refl _ _) (Nat.le_refl _) _)
  rw [eY]
  clear eY
  generalize World.alloc x0 _ = x1 at *
  refine sV (.pointer (some ⟨x1.heap.size, 0, none⟩)) (x1.alloc (.cells v.cells.toArray TV)) (by kernel_rfl) (by kernel_rfl) ?_
  simp only [Act.put, List.setIfInBounds_toArray, List.set_cons_succ, List.set_cons_zero]
  obtain ⟨V, eV⟩ : ∃ A, x1.heap.size = A := ⟨_, rfl⟩
  have hbV := bag_box (T := TV) (cs := v.cells) (X := V) hbY eV.symm (w' := x1.alloc (.cells v.cells.toArray TV)) (by rw [← eV]; exact At.new _ _ _) (Below.alloc (Below.refl _ _) (Nat.le_refl _) _)
  rw [eV]
  clear eV
  generalize World.alloc x1 _ = x2 at *
  have H2 := WirS.hide hbV
  clear hbV hbY hbX
  go_upto_region 1 with fail
  refine wp_region_lit ?_
  refine sL (by kernel_rfl) _ _ (by rfl) _ (by kernel_rfl) H2.out.drop.drop.head _ _ UC rfl (by kernel_rfl) (by rw [ccl_len _ _ _ HL.out]) ?_
  simp only [Act.put, List.setIfInBounds_toArray, List.set_cons_succ, List.set_cons_zero]
  refine sC (R := fun w' => Below x2.heap.size x2 w') (by kernel_rfl) (by kernel_rfl) (HLA.out x2) ?_
  rintro x3 hb
  simp only [Act.put, List.setIfInBounds_toArray, List.set_cons_succ, List.set_cons_zero]
  have H3 := WirS.hide (H2.out.more hb)
  clear hb H2
  refine sV (.bool true) (x3) (by kernel_rfl) (by kernel_rfl) ?_
  simp only [Act.put, List.setIfInBounds_toArray, List.set_cons_succ, List.set_cons_zero]
  with_reducible refine sS (by kernel_rfl) ?_
  simp only [Act.put, List.setIfInBounds_toArray, List.set_cons_succ, List.set_cons_zero]
  with_reducible refine sS (by kernel_rfl) ?_
  simp only [Act.put, List.setIfInBounds_toArray, List.set_cons_succ, List.set_cons_zero]
  refine sV (.bool true) (x3) (by kernel_rfl) (by kernel_rfl) ?_
  simp only [Act.put, List.setIfInBounds_toArray, List.set_cons_succ, List.set_cons_zero]
  have HF := H3
  clear H3
  go_wp2_with (go_at_call 63; refine (CmQ.awake_any _).mono ?_; rintro e u ⟨rfl, hb⟩; have HG := WirS.hide (HF.out.low.trans (hb.mono HF.out.low.size)); clear hb)
  go_ret
  exact ⟨rfl, HG.out⟩
set_option maxRecDepth 20000 in
set_option maxHeartbeats 16000000 in
theorem adds_lb (w : World) (ht hu : Int) (h k : List Int) (a b : Option Addr) (n c m d : Nat) (v : Vt) (hl : h.length = 32) (kl : k.length = 32) (hn : n ≤ 70) (hm : 70 < m) : Calls Try.prog 14 #[.agg (ccl ht h (.slice a n c)).toArray, .agg (ccl hu k (.slice b m d)).toArray, .agg #[.int .i64 v.at', .int .u64 v.sg]] w fun e w' => e = .returned (.bool true) ∧ Below w.heap.size w w' := by
  have HL := WirS.hide hl
  have HK := WirS.hide kl
  have HLA := WirS.hide (fun U => long_any U ht h a n c hl)
  have HLB := WirS.hide (fun U => long_any U hu k b m d kl)
  rw [decide_eq_false (by omega)] at HLA
  rw [decide_eq_true hm] at HLB
  clear hl kl hn hm
  go_enter Try.func14, Try.ntmps14
  go_upto_region 0 with fail
  refine wp_region_lit ?_
  refine sV (.pointer (some ⟨w.heap.size, 0, none⟩)) (w.alloc (.cells (ccl ht h (.slice a n c)).toArray TC)) (by kernel_rfl) (by kernel_rfl) ?_
  simp only [Act.put, List.setIfInBounds_toArray, List.set_cons_succ, List.set_cons_zero]
  have hbX := bag_box (w0 := w) (T := TC) (cs := (ccl ht h (.slice a n c))) (X := w.heap.size) (Bag.nil (Below.refl _ _)) rfl (w' := w.alloc (.cells (ccl ht h (.slice a n c)).toArray TC)) (At.new _ _ _) (Below.alloc (Below.refl _ _) (Nat.le_refl _) _)
  obtain ⟨X, eX⟩ : ∃ A, w.heap.size = A := ⟨_, rfl⟩
  rw [eX] at hbX ⊢
  clear eX
  generalize World.alloc w _ = x0 at *
  refine sV (.pointer (some ⟨x0.heap.size, 0, none⟩)) (x0.alloc (.cells (ccl hu k (.slice b m d)).toArray TC)) (by kernel_rfl) (by kernel_rfl) ?_
  simp only [Act.put, List.setIfInBounds_toArray, List.set_cons_succ, List.set_cons_zero]
  obtain ⟨Y, eY⟩ : ∃ A, x0.heap.size = A := ⟨_, rfl⟩
  have hbY := bag_box (T := TC) (cs := (ccl hu k (.slice b m d))) (X := Y) hbX eY.symm (w' := x0.alloc (.cells (ccl hu k (.slice b m d)).toArray TC)) (by rw [← eY]; exact At.new _ _ _) (Below.alloc (Below.refl _ _) (Nat.le_refl _) _)
  rw [eY]
  clear eY
  generalize World.alloc x0 _ = x1 at *
  refine sV (.pointer (some ⟨x1.heap.size, 0, none⟩)) (x1.alloc (.cells v.cells.toArray TV)) (by kernel_rfl) (by kernel_rfl) ?_
  simp only [Act.put, List.setIfInBounds_toArray, List.set_cons_succ, List.set_cons_zero]
  obtain ⟨V, eV⟩ : ∃ A, x1.heap.size = A := ⟨_, rfl⟩
  have hbV := bag_box (T := TV) (cs := v.cells) (X := V) hbY eV.symm (w' := x1.alloc (.cells v.cells.toArray TV)) (by rw [← eV]; exact At.new _ _ _) (Below.alloc (Below.refl _ _) (Nat.le_refl _) _)
  rw [eV]
  clear eV
  generalize World.alloc x1 _ = x2 at *
  have H2 := WirS.hide hbV
  clear hbV hbY hbX
  go_upto_region 1 with fail
  refine wp_region_lit ?_
  refine sL (by kernel_rfl) _ _ (by rfl) _ (by kernel_rfl) H2.out.drop.drop.head _ _ UC rfl (by kernel_rfl) (by rw [ccl_len _ _ _ HL.out]) ?_
  simp only [Act.put, List.setIfInBounds_toArray, List.set_cons_succ, List.set_cons_zero]
  refine sC (R := fun w' => Below x2.heap.size x2 w') (by kernel_rfl) (by kernel_rfl) (HLA.out x2) ?_
  rintro x3 hb
  simp only [Act.put, List.setIfInBounds_toArray, List.set_cons_succ, List.set_cons_zero]
  have H3 := WirS.hide (H2.out.more hb)
  clear hb H2
  refine sV (.bool false) (x3) (by kernel_rfl) (by kernel_rfl) ?_
  simp only [Act.put, List.setIfInBounds_toArray, List.set_cons_succ, List.set_cons_zero]
  refine sL (by kernel_rfl) _ _ (by rfl) _ (by kernel_rfl) H3.out.drop.head _ _ UC rfl (by kernel_rfl) (by rw [ccl_len _ _ _ HK.out]) ?_
  simp only [Act.put, List.setIfInBounds_toArray, List.set_cons_succ, List.set_cons_zero]
  refine sC (R := fun w' => Below x3.heap.size x3 w') (by kernel_rfl) (by kernel_rfl) (HLB.out x3) ?_
  rintro x4 hb
  simp only [Act.put, List.setIfInBounds_toArray, List.set_cons_succ, List.set_cons_zero]
  have H4 := WirS.hide (H3.out.more hb)
  clear hb H3
  refine sV (.bool true) (x4) (by kernel_rfl) (by kernel_rfl) ?_
  simp only [Act.put, List.setIfInBounds_toArray, List.set_cons_succ, List.set_cons_zero]
  have HF := H4
  clear H4
  go_wp2_with (go_at_call 63; refine (CmQ.awake_any _).mono ?_; rintro e u ⟨rfl, hb⟩; have HG := WirS.hide (HF.out.low.trans (hb.mono HF.out.low.size)); clear hb)
  go_ret
  exact ⟨rfl, HG.out⟩
theorem adds_row (w : World) (ht : Int) (h : List Int) (a : Option Addr) (n c : Nat) (vs : List Vt) (hu : Int) (k : List Int) (b : Option Addr) (m d : Nat) (us : List Vt) (v : Vt)
    (h1 : h.length = 32 ∧ VtIn w a n c vs ∧ (∀ z ∈ h, 0 ≤ z ∧ z < 256) ∧ -9223372036854775808 ≤ ht ∧ ht < 9223372036854775808) (h2 : k.length = 32 ∧ VtIn w b m d us ∧ (∀ z ∈ k, 0 ≤ z ∧ z < 256) ∧ -9223372036854775808 ≤ hu ∧ hu < 9223372036854775808) (hv : v.ok) :
    Calls Try.prog 14 #[.agg (ccl ht h (.slice a n c)).toArray, .agg (ccl hu k (.slice b m d)).toArray, .agg v.cells.toArray] w fun e w' => e = .returned (.bool true) ∧ Below w.heap.size w w' := by
  by_cases hn : 70 < n
  · exact adds_la w ht hu h k a b n c m d v h1.1 h2.1 hn
  · by_cases hm : 70 < m
    · exact adds_lb w ht hu h k a b n c m d v h1.1 h2.1 (by omega) hm
    · exact adds_main w ht hu h k a b n c m d vs us v h1.1 h2.1 h1.2.1 h2.2.1 (by omega) (by omega) hv
end CmAf
end Go.Proofs.Ytplinpbmncccoaa

