/-
  BlakeTells walked: texts, what is read, and order, as the document says.
-/
import Derived.Test.YtmdikdcbphogcaaDoorBlkS
import Derived.Test.YtmdikdcbphogcaaDoorBlkT
namespace Go.Proofs.YtmdikdcbphogcaaDoor
namespace BlkY2
open Go.RowKit
open BlkM BlkA BlkG BlkI BlkJ BlkK BlkL BlkO BlkP BlkQ BlkR BlkU BlkS BlkX BlkZ BlkV BlkT

/-- A call as a step of a drawn region. -/
theorem stepCallH {P : Program} {o : Oper} {a : Act} {w : World} {K : Act → World → Prop} {Q : Exit → Act → World → Prop} {f : FuncId} {args : Array Value} {v : Value} {R : World → Prop} (hrun : (execOp a.eval o).run P w = .ok (.enter f args) w)
    (hc : Calls P f args w fun e w' => e = .returned v ∧ R w') (h : ∀ w', R w' → K (a.put o.dst v) w') : o.wp P a w K Q := by
  unfold Oper.wp
  rw [hrun, Oper.upon_enter]
  exact hc.mono (by rintro e w' ⟨rfl, hr⟩; exact h w' hr)
/-- Two values compared, as an operation. -/
theorem run_eq {P : Program} {a : Operand → Value} {o : Oper} {op : BinOp} {t t2 : TypeId} {x y : Operand} {vx vy v : Value} {w : World} (ho : o.op = .binOp op t x y t2) (hx : a x = vx) (hy : a y = vy) (hr : (binOp op t vx vy).run P w = .ok v w) (hg : (eqGuard op t x y vx vy).run P w = .ok () w) : (execOp a o).run P w = .ok (.value v) w := by
  unfold execOp
  simp only [ho, hx, hy, Sem.run_bind, hg, Result.andThen_ok, hr, Sem.run_pure]
set_option maxRecDepth 10000 in
set_option maxHeartbeats 8000000 in
theorem tells_any (w : World) (a b : List Int) (s : ByteArray) (ha : a.length = 32 ∧ rng a) (hb : b.length = 32 ∧ rng b) (hg : Glob w) : Calls Tryd.prog 4 #[.agg (b8 a).toArray, .agg (b8 b).toArray, .string s] w fun e w' => e = .returned (.bool true) ∧ Below w.heap.size w w' := by
  obtain ⟨la, ra⟩ := ha
  obtain ⟨lb, rb⟩ := hb
  obtain ⟨W0, eW0⟩ : ∃ X, X = (w.alloc (.cells (b8 a).toArray 26)).alloc (.cells (b8 b).toArray 26) := ⟨_, rfl⟩
  have hA0 : At W0 w.heap.size 26 (b8 a) := by rw [eW0]; exact At.alloc (At.new w _ _) _
  have hC0 : At W0 (w.heap.size + 1) 26 (b8 b) := by
    rw [eW0]
    have := At.new (w.alloc (.cells (b8 a).toArray 26)) 26 (b8 b)
    rw [World.size_alloc] at this
    exact this
  have hB0 : Below w.heap.size w W0 := by rw [eW0]; exact Below.alloc (Below.alloc (Below.refl _ _) (Nat.le_refl _) _) (by simp) _
  obtain ⟨Y, e, hLY, hRD, hRR⟩ : ∃ (Y : List Int) (e : Int), Y.length = 32 ∧ (∀ W, Calls Tryd.prog 16 #[.string s] W fun x W' => x = .returned (.tuple #[.agg (b8 Y).toArray, .int .i64 e]) ∧ Below W.heap.size W W') ∧ (∀ W, Calls Tryd.prog 17 #[.string s] W fun x W' => x = .returned (.tuple #[.agg (b8 Y).toArray, .int .i64 e]) ∧ Below W.heap.size W W') := by
    by_cases hok : okS s
    · exact ⟨rdL s, 0, rp_len s 64, fun W => read_any W s (tOk s) (fun _ => rfl) (fun h => absurd hok h), fun W => rread_any W s (tOk s) (fun _ => rfl) (fun h => absurd hok h)⟩
    · exact ⟨zH, 5, rfl, fun W => read_any W s tNo (fun h => absurd h hok) (fun _ => rfl), fun W => rread_any W s tNo (fun h => absurd h hok) (fun _ => rfl)⟩
  have LY := hide hLY
  have RD := hide hRD
  have RR := hide hRR
  have HG := hide hg
  have E0 := hide eW0
  have HA0 := hide hA0
  have HC0 := hide hC0
  have HB0 := hide hB0
  obtain ⟨tx, htx⟩ : ∃ tx, hashText a = tx := ⟨_, rfl⟩
  obtain ⟨cp, hcp⟩ : ∃ cp, cmpI a b = cp := ⟨_, rfl⟩
  have TA := hide (fun W => htx ▸ text_any W a la ra)
  have RA := hide (fun W => htx ▸ rtext_any W a la ra)
  have CA := hide (fun W => hcp ▸ compare_any W a b la lb)
  have DA := hide (fun W => hcp ▸ rcompare_any W a b la lb ra rb)
  have q1 : (tx.toList == tx.toList) = true := by simp
  have q2 : (cp == cp) = true := by simp
  have q3 : (e == e) = true := by simp
  have LA := hide la
  have LB := hide lb
  clear htx hcp
  have hyy := fun W => show (binOp .eql 26 (.agg (b8 Y).toArray) (.agg (b8 Y).toArray)).run Tryd.prog W = .ok (.bool true) W by rw [eqH Y Y hLY hLY W, decide_eq_true (rfl : Y = Y)]
  have hi : (Tryd.prog.info? 26).map (·.size) = some (b8 a).length := by rw [b8_len, la]; kernel_rfl
  have hj : (Tryd.prog.info? 26).map (·.size) = some (b8 b).length := by rw [b8_len, lb]; kernel_rfl
  have hk : (Tryd.prog.info? 26).map (·.size) = some (b8 Y).length := by rw [b8_len, hLY]; kernel_rfl
  have hu := Tryd.underlying26
  clear eW0 hA0 hC0 hB0 la lb ra rb hg hLY hRD hRR
  by_cases h200 : s.size ≤ 200
  · have t0 : ¬ (200 : Int) < (s.size : Int) := by omega
    go_enter Tryd.func4, Tryd.ntmps4
    go_upto_region 1 with fail
    rw [← E0.out]
    go_upto_region 3 with fail
    refine wp_region_lit ?_
    with_reducible refine sV (.string s) W0 (by kernel_rfl) (by kernel_rfl) ?_
    simp only [Act.put, List.setIfInBounds_toArray, List.set_cons_succ, List.set_cons_zero]
    refine sC (by kernel_rfl) (by kernel_rfl) (RD.out W0) ?_
    intro u3 hb3
    simp only [Act.put, List.setIfInBounds_toArray, List.set_cons_succ, List.set_cons_zero]
    with_reducible refine sV (.tuple #[.agg (b8 Y).toArray, .int .i64 e]) u3 (by kernel_rfl) (by kernel_rfl) ?_
    simp only [Act.put, List.setIfInBounds_toArray, List.set_cons_succ, List.set_cons_zero]
    with_reducible refine sV (.agg (b8 Y).toArray) u3 (by kernel_rfl) (by kernel_rfl) ?_
    simp only [Act.put, List.setIfInBounds_toArray, List.set_cons_succ, List.set_cons_zero]
    with_reducible refine sV (.int .i64 e) u3 (by kernel_rfl) (by kernel_rfl) ?_
    simp only [Act.put, List.setIfInBounds_toArray, List.set_cons_succ, List.set_cons_zero]
    refine stepVal (v := .pointer (some ⟨u3.heap.size, 0, none⟩)) (w' := u3.alloc (.cells (b8 zH).toArray 26)) (by rfl) (alH _ _ rfl u3) ?_
    simp only [Act.put, List.setIfInBounds_toArray, List.set_cons_succ, List.set_cons_zero]
    refine stepStore (by rfl) _ _ _ (by rfl) _ (b8 Y) (by kernel_rfl) (by kernel_rfl) (At.new u3 26 (b8 zH)) 32 (by kernel_rfl) (by rw [b8_len]; rfl) (by rw [b8_len]; exact LY.out) (oneCells_b8 _) ?_
    simp only [Act.put]
    obtain ⟨H3, eH⟩ : ∃ H, H = u3.heap.size := ⟨_, rfl⟩
    obtain ⟨W3, eW⟩ : ∃ X, X = (u3.alloc (.cells (b8 zH).toArray 26)).setRow u3.heap.size (b8 Y).toArray := ⟨_, rfl⟩
    have hAn : At W3 H3 26 (b8 Y) := by rw [eW, eH]; exact (At.new u3 26 (b8 zH)).put _
    have hBn : Below u3.heap.size u3 W3 := by rw [eW]; exact Below.setRowOwn (Below.alloc (Below.refl _ _) (Nat.le_refl _) _) (Nat.le_refl _) _
    rw [← eW, ← eH]
    have HA3 := hide (((HA0.out).below hb3 (HA0.out).lt).below hBn ((HA0.out).below hb3 (HA0.out).lt).lt)
    have HC3 := hide (((HC0.out).below hb3 (HC0.out).lt).below hBn ((HC0.out).below hb3 (HC0.out).lt).lt)
    have HB3 := hide ((HB0.out.trans (hb3.mono HB0.out.size)).trans (hBn.mono (Below.size (HB0.out.trans (hb3.mono HB0.out.size)))))
    have HX3 := hide hAn
    clear hb3 hBn hAn eW eH HA0 HC0 HB0
    go_upto_region 4 with fail
    refine wp_region_lit ?_
    with_reducible refine sV (.string s) W3 (by kernel_rfl) (by kernel_rfl) ?_
    simp only [Act.put, List.setIfInBounds_toArray, List.set_cons_succ, List.set_cons_zero]
    refine sC (by kernel_rfl) (by kernel_rfl) (RR.out W3) ?_
    intro u4 hb4
    simp only [Act.put, List.setIfInBounds_toArray, List.set_cons_succ, List.set_cons_zero]
    with_reducible refine sV (.tuple #[.agg (b8 Y).toArray, .int .i64 e]) u4 (by kernel_rfl) (by kernel_rfl) ?_
    simp only [Act.put, List.setIfInBounds_toArray, List.set_cons_succ, List.set_cons_zero]
    with_reducible refine sV (.agg (b8 Y).toArray) u4 (by kernel_rfl) (by kernel_rfl) ?_
    simp only [Act.put, List.setIfInBounds_toArray, List.set_cons_succ, List.set_cons_zero]
    with_reducible refine sV (.int .i64 e) u4 (by kernel_rfl) (by kernel_rfl) ?_
    simp only [Act.put, List.setIfInBounds_toArray, List.set_cons_succ, List.set_cons_zero]
    refine stepVal (v := .pointer (some ⟨u4.heap.size, 0, none⟩)) (w' := u4.alloc (.cells (b8 zH).toArray 26)) (by rfl) (alH _ _ rfl u4) ?_
    simp only [Act.put, List.setIfInBounds_toArray, List.set_cons_succ, List.set_cons_zero]
    refine stepStore (by rfl) _ _ _ (by rfl) _ (b8 Y) (by kernel_rfl) (by kernel_rfl) (At.new u4 26 (b8 zH)) 32 (by kernel_rfl) (by rw [b8_len]; rfl) (by rw [b8_len]; exact LY.out) (oneCells_b8 _) ?_
    simp only [Act.put]
    obtain ⟨H4, eH⟩ : ∃ H, H = u4.heap.size := ⟨_, rfl⟩
    obtain ⟨W6, eW⟩ : ∃ X, X = (u4.alloc (.cells (b8 zH).toArray 26)).setRow u4.heap.size (b8 Y).toArray := ⟨_, rfl⟩
    have hAn : At W6 H4 26 (b8 Y) := by rw [eW, eH]; exact (At.new u4 26 (b8 zH)).put _
    have hBn : Below u4.heap.size u4 W6 := by rw [eW]; exact Below.setRowOwn (Below.alloc (Below.refl _ _) (Nat.le_refl _) _) (Nat.le_refl _) _
    rw [← eW, ← eH]
    have HA6 := hide (((HA3.out).below hb4 (HA3.out).lt).below hBn ((HA3.out).below hb4 (HA3.out).lt).lt)
    have HC6 := hide (((HC3.out).below hb4 (HC3.out).lt).below hBn ((HC3.out).below hb4 (HC3.out).lt).lt)
    have HX6 := hide (((HX3.out).below hb4 (HX3.out).lt).below hBn ((HX3.out).below hb4 (HX3.out).lt).lt)
    have HB6 := hide ((HB3.out.trans (hb4.mono HB3.out.size)).trans (hBn.mono (Below.size (HB3.out.trans (hb4.mono HB3.out.size)))))
    have HY6 := hide hAn
    clear hb4 hBn hAn eW eH HA3 HC3 HB3 HX3
    have AW := hide (fun W (k : Below W6.heap.size W6 W) => awake_any W ((HG.out.below HB6.out HG.out.1).below k (by have := HA6.out.lt; omega)))
    go_upto_region 5 with fail
    have K0 : Below W6.heap.size W6 W6.drew := below_drewN (Below.refl _ _) 1
    have HKy0 := hide K0
    have hs0 : W6.drew.rangeAt w.heap.size 0 (b8 a) ∧ W6.drew.rangeAt (w.heap.size + 1) 0 (b8 b) ∧ W6.drew.rangeAt H3 0 (b8 Y) ∧ W6.drew.rangeAt H4 0 (b8 Y) := ⟨range_of HA6.out K0, range_of HC6.out K0, range_of HX6.out K0, range_of HY6.out K0⟩
    clear K0
    refine wp_region_noPanic ?_
    refine wp_region_held_drew (S := fun w' => w'.rangeAt w.heap.size 0 (b8 a) ∧ w'.rangeAt (w.heap.size + 1) 0 (b8 b) ∧ w'.rangeAt H3 0 (b8 Y) ∧ w'.rangeAt H4 0 (b8 Y)) (by kernel_rfl) hs0 (fun hHeld => ?_)
    generalize World.drew W6 = y0 at *
    refine' wpAnyH_take (i := 0) (oi := _) (v := .agg ((b8 a)).toArray) rfl (by kernel_rfl) (by kernel_rfl) (by kernel_rfl) (fun _ _ _ h => h) (yieldsIf_load_mid (by kernel_rfl) 26 (.tmp 3) (by kernel_rfl) w.heap.size 0 (by kernel_rfl) ((b8 a)) _ (fun _ h => h.1) Tryd.underlying26 (by kernel_rfl) (by rw [b8_len, LA.out]; kernel_rfl)) (by assumption) ?rest0
    case rest0 =>
    try simp only [List.getElem_toArray, List.getElem_cons_zero, Act.put, List.setIfInBounds_toArray, List.set_cons_zero, List.set_cons_succ]
    refine' wpAnyH_take (i := 2) (oi := _) (v := .agg ((b8 a)).toArray) rfl (by kernel_rfl) (by kernel_rfl) (by kernel_rfl) (fun _ _ _ h => h) (yieldsIf_load_mid (by kernel_rfl) 26 (.tmp 3) (by kernel_rfl) w.heap.size 0 (by kernel_rfl) ((b8 a)) _ (fun _ h => h.1) Tryd.underlying26 (by kernel_rfl) (by rw [b8_len, LA.out]; kernel_rfl)) (by assumption) ?rest2
    case rest2 =>
    try simp only [List.getElem_toArray, List.getElem_cons_succ, List.getElem_cons_zero, Act.put, List.setIfInBounds_toArray, List.set_cons_zero, List.set_cons_succ]
    refine wpAnyH_ready (rs := [1]) (by kernel_rfl) (by simp) ?_
    refine AllReadyH.cons rfl (fun K hK => ?_) AllReadyH.nil
    rw [if_pos (by kernel_rfl)]
    refine stepCallH (v := .string tx) (R := fun w' => Below y0.heap.size y0 w') (by kernel_rfl) (TA.out y0) ?_
    rintro y1 hb
    try simp only [List.getElem_toArray, List.getElem_cons_succ, List.getElem_cons_zero, Act.put, List.setIfInBounds_toArray, List.set_cons_zero, List.set_cons_succ]
    have Ky1 := (HKy0.out).trans (hb.mono (HKy0.out).size)
    have HKy1 := hide Ky1
    clear hb
    refine hK.out _ _ ⟨range_of HA6.out Ky1, range_of HC6.out Ky1, range_of HX6.out Ky1, range_of HY6.out Ky1⟩ (fun hHeld => ?_)
    clear hK K
    refine wpAnyH_ready (rs := [3]) (by kernel_rfl) (by simp) ?_
    refine AllReadyH.cons rfl (fun K hK => ?_) AllReadyH.nil
    rw [if_pos (by kernel_rfl)]
    refine stepCallH (v := .string tx) (R := fun w' => Below y1.heap.size y1 w') (by kernel_rfl) (RA.out y1) ?_
    rintro y2 hb
    try simp only [List.getElem_toArray, List.getElem_cons_succ, List.getElem_cons_zero, Act.put, List.setIfInBounds_toArray, List.set_cons_zero, List.set_cons_succ]
    have Ky2 := (HKy1.out).trans (hb.mono (HKy1.out).size)
    have HKy2 := hide Ky2
    clear hb
    refine hK.out _ _ ⟨range_of HA6.out Ky2, range_of HC6.out Ky2, range_of HX6.out Ky2, range_of HY6.out Ky2⟩ (fun hHeld => ?_)
    clear hK K
    refine' wpAnyH_take (i := 4) (oi := _) (v := _) rfl (by kernel_rfl) (by kernel_rfl) (by kernel_rfl) (fun _ _ _ h => h) (Or.inl ⟨by kernel_rfl, ?hy4⟩) (by assumption) ?rest4
    case hy4 =>
      intro w hSw
      try dsimp only at hSw
      go_simp
      try with_reducible rfl
    case rest4 =>
    try simp only [List.getElem_toArray, List.getElem_cons_succ, List.getElem_cons_zero, Act.put, List.setIfInBounds_toArray, List.set_cons_zero, List.set_cons_succ]
    refine' wpAnyH_take (i := 5) (oi := _) (v := _) rfl (by kernel_rfl) (by kernel_rfl) (by kernel_rfl) (fun _ _ _ h => h) (Or.inl ⟨by kernel_rfl, ?hy5⟩) (by assumption) ?rest5
    case hy5 =>
      intro w hSw
      try dsimp only at hSw
      go_simp
      try with_reducible rfl
    case rest5 =>
    try simp only [List.getElem_toArray, List.getElem_cons_succ, List.getElem_cons_zero, Act.put, List.setIfInBounds_toArray, List.set_cons_zero, List.set_cons_succ]
    refine' wpAnyH_take (i := 6) (oi := _) (v := .agg ((b8 Y)).toArray) rfl (by kernel_rfl) (by kernel_rfl) (by kernel_rfl) (fun _ _ _ h => h) (yieldsIf_load_mid (by kernel_rfl) 26 (.tmp 7) (by kernel_rfl) H3 0 (by kernel_rfl) ((b8 Y)) _ (fun _ h => h.2.2.1) Tryd.underlying26 (by kernel_rfl) (by rw [b8_len, LY.out]; kernel_rfl)) (by assumption) ?rest6
    case rest6 =>
    try simp only [List.getElem_toArray, List.getElem_cons_succ, List.getElem_cons_zero, Act.put, List.setIfInBounds_toArray, List.set_cons_zero, List.set_cons_succ]
    refine' wpAnyH_take (i := 7) (oi := _) (v := .agg ((b8 Y)).toArray) rfl (by kernel_rfl) (by kernel_rfl) (by kernel_rfl) (fun _ _ _ h => h) (yieldsIf_load_mid (by kernel_rfl) 26 (.tmp 9) (by kernel_rfl) H4 0 (by kernel_rfl) ((b8 Y)) _ (fun _ h => h.2.2.2) Tryd.underlying26 (by kernel_rfl) (by rw [b8_len, LY.out]; kernel_rfl)) (by assumption) ?rest7
    case rest7 =>
    try simp only [List.getElem_toArray, List.getElem_cons_succ, List.getElem_cons_zero, Act.put, List.setIfInBounds_toArray, List.set_cons_zero, List.set_cons_succ]
    refine' wpAnyH_take (i := 8) (oi := _) (v := .bool true) rfl (by kernel_rfl) (by kernel_rfl) (by kernel_rfl) (fun _ _ _ h => h) (Or.inl ⟨by kernel_rfl, ?hy8⟩) (by assumption) ?rest8
    case hy8 =>
      intro W _
      exact run_eq (op := .eql) (t := 26) (t2 := 26) (x := .tmp 31) (y := .tmp 32) (vx := .agg (b8 Y).toArray) (vy := .agg (b8 Y).toArray) (by kernel_rfl) (by kernel_rfl) (by kernel_rfl) (hyy W) (by kernel_rfl)
    case rest8 =>
    try simp only [List.getElem_toArray, List.getElem_cons_succ, List.getElem_cons_zero, Act.put, List.setIfInBounds_toArray, List.set_cons_zero, List.set_cons_succ]
    refine' wpAnyH_take (i := 9) (oi := _) (v := _) rfl (by kernel_rfl) (by kernel_rfl) (by kernel_rfl) (fun _ _ _ h => h) (Or.inl ⟨by kernel_rfl, ?hy9⟩) (by assumption) ?rest9
    case hy9 =>
      intro w hSw
      try dsimp only at hSw
      go_simp
      try with_reducible rfl
    case rest9 =>
    try simp only [List.getElem_toArray, List.getElem_cons_succ, List.getElem_cons_zero, Act.put, List.setIfInBounds_toArray, List.set_cons_zero, List.set_cons_succ]
    refine' wpAnyH_take (i := 10) (oi := _) (v := _) rfl (by kernel_rfl) (by kernel_rfl) (by kernel_rfl) (fun _ _ _ h => h) (Or.inl ⟨by kernel_rfl, ?hy10⟩) (by assumption) ?rest10
    case hy10 =>
      intro w hSw
      try dsimp only at hSw
      go_simp
      try with_reducible rfl
    case rest10 =>
    try simp only [List.getElem_toArray, List.getElem_cons_succ, List.getElem_cons_zero, Act.put, List.setIfInBounds_toArray, List.set_cons_zero, List.set_cons_succ]
    refine' wpAnyH_take (i := 11) (oi := _) (v := _) rfl (by kernel_rfl) (by kernel_rfl) (by kernel_rfl) (fun _ _ _ h => h) (Or.inl ⟨by kernel_rfl, ?hy11⟩) (by assumption) ?rest11
    case hy11 =>
      intro w hSw
      try dsimp only at hSw
      go_simp
      try with_reducible rfl
    case rest11 =>
    try simp only [List.getElem_toArray, List.getElem_cons_succ, List.getElem_cons_zero, Act.put, List.setIfInBounds_toArray, List.set_cons_zero, List.set_cons_succ]
    refine' wpAnyH_take (i := 12) (oi := _) (v := _) rfl (by kernel_rfl) (by kernel_rfl) (by kernel_rfl) (fun _ _ _ h => h) (Or.inl ⟨by kernel_rfl, ?hy12⟩) (by assumption) ?rest12
    case hy12 =>
      intro w hSw
      try dsimp only at hSw
      go_simp
      try with_reducible rfl
    case rest12 =>
    try simp only [List.getElem_toArray, List.getElem_cons_succ, List.getElem_cons_zero, Act.put, List.setIfInBounds_toArray, List.set_cons_zero, List.set_cons_succ]
    refine' wpAnyH_take (i := 13) (oi := _) (v := _) rfl (by kernel_rfl) (by kernel_rfl) (by kernel_rfl) (fun _ _ _ h => h) (Or.inl ⟨by kernel_rfl, ?hy13⟩) (by assumption) ?rest13
    case hy13 =>
      intro w hSw
      try dsimp only at hSw
      go_simp
      try with_reducible rfl
    case rest13 =>
    try simp only [List.getElem_toArray, List.getElem_cons_succ, List.getElem_cons_zero, Act.put, List.setIfInBounds_toArray, List.set_cons_zero, List.set_cons_succ]
    refine' wpAnyH_take (i := 14) (oi := _) (v := _) rfl (by kernel_rfl) (by kernel_rfl) (by kernel_rfl) (fun _ _ _ h => h) (Or.inl ⟨by kernel_rfl, ?hy14⟩) (by assumption) ?rest14
    case hy14 =>
      intro w hSw
      try dsimp only at hSw
      go_simp
      try with_reducible rfl
    case rest14 =>
    try simp only [List.getElem_toArray, List.getElem_cons_succ, List.getElem_cons_zero, Act.put, List.setIfInBounds_toArray, List.set_cons_zero, List.set_cons_succ]
    refine' wpAnyH_take (i := 15) (oi := _) (v := _) rfl (by kernel_rfl) (by kernel_rfl) (by kernel_rfl) (fun _ _ _ h => h) (Or.inl ⟨by kernel_rfl, ?hy15⟩) (by assumption) ?rest15
    case hy15 =>
      intro w hSw
      try dsimp only at hSw
      go_simp
      try with_reducible rfl
    case rest15 =>
    try simp only [List.getElem_toArray, List.getElem_cons_succ, List.getElem_cons_zero, Act.put, List.setIfInBounds_toArray, List.set_cons_zero, List.set_cons_succ]
    refine' wpAnyH_take (i := 16) (oi := _) (v := .agg ((b8 a)).toArray) rfl (by kernel_rfl) (by kernel_rfl) (by kernel_rfl) (fun _ _ _ h => h) (yieldsIf_load_mid (by kernel_rfl) 26 (.tmp 3) (by kernel_rfl) w.heap.size 0 (by kernel_rfl) ((b8 a)) _ (fun _ h => h.1) Tryd.underlying26 (by kernel_rfl) (by rw [b8_len, LA.out]; kernel_rfl)) (by assumption) ?rest16
    case rest16 =>
    try simp only [List.getElem_toArray, List.getElem_cons_succ, List.getElem_cons_zero, Act.put, List.setIfInBounds_toArray, List.set_cons_zero, List.set_cons_succ]
    refine' wpAnyH_take (i := 17) (oi := _) (v := .agg ((b8 b)).toArray) rfl (by kernel_rfl) (by kernel_rfl) (by kernel_rfl) (fun _ _ _ h => h) (yieldsIf_load_mid (by kernel_rfl) 26 (.tmp 4) (by kernel_rfl) (w.heap.size + 1) 0 (by kernel_rfl) ((b8 b)) _ (fun _ h => h.2.1) Tryd.underlying26 (by kernel_rfl) (by rw [b8_len, LB.out]; kernel_rfl)) (by assumption) ?rest17
    case rest17 =>
    try simp only [List.getElem_toArray, List.getElem_cons_succ, List.getElem_cons_zero, Act.put, List.setIfInBounds_toArray, List.set_cons_zero, List.set_cons_succ]
    refine' wpAnyH_take (i := 19) (oi := _) (v := .agg ((b8 a)).toArray) rfl (by kernel_rfl) (by kernel_rfl) (by kernel_rfl) (fun _ _ _ h => h) (yieldsIf_load_mid (by kernel_rfl) 26 (.tmp 3) (by kernel_rfl) w.heap.size 0 (by kernel_rfl) ((b8 a)) _ (fun _ h => h.1) Tryd.underlying26 (by kernel_rfl) (by rw [b8_len, LA.out]; kernel_rfl)) (by assumption) ?rest19
    case rest19 =>
    try simp only [List.getElem_toArray, List.getElem_cons_succ, List.getElem_cons_zero, Act.put, List.setIfInBounds_toArray, List.set_cons_zero, List.set_cons_succ]
    refine' wpAnyH_take (i := 20) (oi := _) (v := .agg ((b8 b)).toArray) rfl (by kernel_rfl) (by kernel_rfl) (by kernel_rfl) (fun _ _ _ h => h) (yieldsIf_load_mid (by kernel_rfl) 26 (.tmp 4) (by kernel_rfl) (w.heap.size + 1) 0 (by kernel_rfl) ((b8 b)) _ (fun _ h => h.2.1) Tryd.underlying26 (by kernel_rfl) (by rw [b8_len, LB.out]; kernel_rfl)) (by assumption) ?rest20
    case rest20 =>
    try simp only [List.getElem_toArray, List.getElem_cons_succ, List.getElem_cons_zero, Act.put, List.setIfInBounds_toArray, List.set_cons_zero, List.set_cons_succ]
    refine wpAnyH_ready (rs := [18]) (by kernel_rfl) (by simp) ?_
    refine AllReadyH.cons rfl (fun K hK => ?_) AllReadyH.nil
    rw [if_pos (by kernel_rfl)]
    refine stepCallH (v := .int .i64 cp) (R := fun w' => Below y2.heap.size y2 w') (by kernel_rfl) (CA.out y2) ?_
    rintro y3 hb
    try simp only [List.getElem_toArray, List.getElem_cons_succ, List.getElem_cons_zero, Act.put, List.setIfInBounds_toArray, List.set_cons_zero, List.set_cons_succ]
    have Ky3 := (HKy2.out).trans (hb.mono (HKy2.out).size)
    have HKy3 := hide Ky3
    clear hb
    refine hK.out _ _ ⟨range_of HA6.out Ky3, range_of HC6.out Ky3, range_of HX6.out Ky3, range_of HY6.out Ky3⟩ (fun hHeld => ?_)
    clear hK K
    refine wpAnyH_ready (rs := [21]) (by kernel_rfl) (by simp) ?_
    refine AllReadyH.cons rfl (fun K hK => ?_) AllReadyH.nil
    rw [if_pos (by kernel_rfl)]
    refine stepCallH (v := .int .i64 cp) (R := fun w' => Below y3.heap.size y3 w') (by kernel_rfl) (DA.out y3) ?_
    rintro y4 hb
    try simp only [List.getElem_toArray, List.getElem_cons_succ, List.getElem_cons_zero, Act.put, List.setIfInBounds_toArray, List.set_cons_zero, List.set_cons_succ]
    have Ky4 := (HKy3.out).trans (hb.mono (HKy3.out).size)
    have HKy4 := hide Ky4
    clear hb
    refine hK.out _ _ ⟨range_of HA6.out Ky4, range_of HC6.out Ky4, range_of HX6.out Ky4, range_of HY6.out Ky4⟩ (fun hHeld => ?_)
    clear hK K
    refine' wpAnyH_take (i := 22) (oi := _) (v := _) rfl (by kernel_rfl) (by kernel_rfl) (by kernel_rfl) (fun _ _ _ h => h) (Or.inl ⟨by kernel_rfl, ?hy22⟩) (by assumption) ?rest22
    case hy22 =>
      intro w hSw
      try dsimp only at hSw
      go_simp
      try with_reducible rfl
    case rest22 =>
    try simp only [List.getElem_toArray, List.getElem_cons_succ, List.getElem_cons_zero, Act.put, List.setIfInBounds_toArray, List.set_cons_zero, List.set_cons_succ]
    refine' wpAnyH_take (i := 23) (oi := _) (v := _) rfl (by kernel_rfl) (by kernel_rfl) (by kernel_rfl) (fun _ _ _ h => h) (Or.inl ⟨by kernel_rfl, ?hy23⟩) (by assumption) ?rest23
    case hy23 =>
      intro w hSw
      try dsimp only at hSw
      go_simp
      try with_reducible rfl
    case rest23 =>
    try simp only [List.getElem_toArray, List.getElem_cons_succ, List.getElem_cons_zero, Act.put, List.setIfInBounds_toArray, List.set_cons_zero, List.set_cons_succ]
    refine' wpAnyH_take (i := 24) (oi := _) (v := _) rfl (by kernel_rfl) (by kernel_rfl) (by kernel_rfl) (fun _ _ _ h => h) (Or.inl ⟨by kernel_rfl, ?hy24⟩) (by assumption) ?rest24
    case hy24 =>
      intro w hSw
      try dsimp only at hSw
      go_simp
      try with_reducible rfl
    case rest24 =>
    try simp only [List.getElem_toArray, List.getElem_cons_succ, List.getElem_cons_zero, Act.put, List.setIfInBounds_toArray, List.set_cons_zero, List.set_cons_succ]
    refine wpAnyH_ready (rs := [25]) (by kernel_rfl) (by simp) ?_
    refine AllReadyH.cons rfl (fun K hK => ?_) AllReadyH.nil
    rw [if_pos (by kernel_rfl)]
    refine stepCallH (v := .bool true) (R := fun w' => Below y4.heap.size y4 w') (by kernel_rfl) (AW.out y4 HKy4.out) ?_
    rintro y5 hb
    try simp only [List.getElem_toArray, List.getElem_cons_succ, List.getElem_cons_zero, Act.put, List.setIfInBounds_toArray, List.set_cons_zero, List.set_cons_succ]
    have Ky5 := (HKy4.out).trans (hb.mono (HKy4.out).size)
    have HKy5 := hide Ky5
    clear hb
    refine hK.out _ _ ⟨range_of HA6.out Ky5, range_of HC6.out Ky5, range_of HX6.out Ky5, range_of HY6.out Ky5⟩ (fun hHeld => ?_)
    clear hK K
    refine' wpAnyH_take (i := 26) (oi := _) (v := _) rfl (by kernel_rfl) (by kernel_rfl) (by kernel_rfl) (fun _ _ _ h => h) (Or.inl ⟨by kernel_rfl, ?hy26⟩) (by assumption) ?rest26
    case hy26 =>
      intro w hSw
      try dsimp only at hSw
      go_simp
      try with_reducible rfl
    case rest26 =>
    try simp only [List.getElem_toArray, List.getElem_cons_succ, List.getElem_cons_zero, Act.put, List.setIfInBounds_toArray, List.set_cons_zero, List.set_cons_succ]
    refine' wpAnyH_take (i := 27) (oi := _) (v := _) rfl (by kernel_rfl) (by kernel_rfl) (by kernel_rfl) (fun _ _ _ h => h) (Or.inl ⟨by kernel_rfl, ?hy27⟩) (by assumption) ?rest27
    case hy27 =>
      intro w hSw
      try dsimp only at hSw
      go_simp
      try with_reducible rfl
    case rest27 =>
    try simp only [List.getElem_toArray, List.getElem_cons_succ, List.getElem_cons_zero, Act.put, List.setIfInBounds_toArray, List.set_cons_zero, List.set_cons_succ]
    refine wpAnyH_done (by kernel_rfl) ?_ _
    refine NoPanic.normal ?_
    go_wp2_with fail
    go_ret
    exact ⟨rfl, Below.trans HB6.out (Below.mono HKy5.out HB6.out.size)⟩
  · have t0 : (200 : Int) < (s.size : Int) := by omega
    have K0 := hide (awake_any W0 (HG.out.below HB0.out HG.out.1))
    go_enter Tryd.func4, Tryd.ntmps4
    go_upto_region 1 with fail
    rw [← E0.out]
    go_wp2_with ((go_at_call 11; refine (K0.out).mono ?_; rintro e w1 ⟨rfl, hb1⟩))
    go_ret
    exact ⟨rfl, HB0.out.trans (hb1.mono HB0.out.size)⟩
end BlkY2
end Go.Proofs.YtmdikdcbphogcaaDoor
