/-
  BlakeTexts walked: what is told as text is read as it was, no other text is; texts stand to one another as hashes do.
-/
import Derived.Test.YtjgimgjnbfnmgaaDoorBlkS
import Derived.Test.YtjgimgjnbfnmgaaDoorBlkX
namespace Go.Proofs.YtjgimgjnbfnmgaaDoor
namespace BlkY
open Go.RowKit
open BlkM BlkA BlkG BlkI BlkJ BlkK BlkL BlkO BlkP BlkQ BlkR BlkU BlkS BlkX

theorem gtr_string (x y : ByteArray) (W : World) : (binOp .gtr 9 (.string x) (.string y)).run Tryd.prog W = .ok (.bool (!Op.bytesLess x.toList y.toList && !(x.toList == y.toList))) W := by
  simp [binOp, Op.stringOp]
set_option maxRecDepth 10000 in
set_option maxHeartbeats 8000000 in
theorem texts_any (w : World) (a b : List Int) (s : ByteArray) (ha : a.length = 32 ∧ rng a) (hb : b.length = 32 ∧ rng b) (hg : Glob w) : Calls Tryd.prog 8 #[.agg (b8 a).toArray, .agg (b8 b).toArray, .string s] w fun e w' => e = .returned (.bool true) ∧ Below w.heap.size w w' := by
  obtain ⟨la, ra⟩ := ha
  obtain ⟨lb, rb⟩ := hb
  obtain ⟨W0, eW0⟩ : ∃ X, X = (w.alloc (.cells (b8 a).toArray 26)).alloc (.cells (b8 b).toArray 26) := ⟨_, rfl⟩
  have hA0 : At W0 w.heap.size 26 (b8 a) := by rw [eW0]; exact At.alloc (At.new w _ _) _
  have hC0 : At W0 (w.heap.size + 1) 26 (b8 b) := by
    rw [eW0]
    have := At.new (w.alloc (.cells (b8 a).toArray 26)) 26 (b8 b)
    rw [World.size_alloc] at this
    exact this
  have hB0 : Below w.heap.size w W0 := by rw [eW0]; exact Below.alloc (Below.alloc (Below.refl _ _) (Nat.le_refl _) _) (by simp) _
  have HG := hide hg
  have E0 := hide eW0
  have K0 := hide (known_any W0 (hg.below hB0 hg.1))
  have HA0 := hide hA0
  have HC0 := hide hC0
  have HB0 := hide hB0
  have LA := hide (show (b8 a).length = 32 by rw [b8_len]; exact la)
  have LB := hide (show (b8 b).length = 32 by rw [b8_len]; exact lb)
  have TA := hide (fun W => text_any W a la ra)
  have TB := hide (fun W => text_any W b lb rb)
  have RA := hide (fun W => read_any W (hashText a) (.tuple #[.agg (b8 a).toArray, .int .i64 0]) (fun _ => by rw [tOk, rd_text a la ra]) (fun h => absurd (ok_text a la ra) h))
  have CAB := hide (fun W => compare_any W a b la lb)
  have CBA := hide (fun W => compare_any W b a lb la)
  have EAB := hide (fun W => eqH a b la lb W)
  have NAA := hide (fun W => show (binOp .neq 26 (.agg (b8 a).toArray) (.agg (b8 a).toArray)).run Tryd.prog W = .ok (.bool false) W by rw [neqH a a la la W, decide_eq_true (rfl : a = a)]; rfl)
  have NZZ := hide (fun W => show (binOp .neq 26 (.agg (b8 zH).toArray) (.agg (b8 zH).toArray)).run Tryd.prog W = .ok (.bool false) W by rw [neqH zH zH rfl rfl W, decide_eq_true (rfl : zH = zH)]; rfl)
  have NSS := hide (fun W => show (binOp .neq 9 (.string s) (.string s)).run Tryd.prog W = .ok (.bool false) W by simp [binOp, Op.stringOp])
  have O3 := hide (ord3 a b la lb ra rb)
  have hsa := hashText_size a la
  have HSA := hide hsa
  clear eW0 hA0 hC0 hB0 la lb ra rb hg hsa
  go_enter Tryd.func8, Tryd.ntmps8
  go_upto_region 1 with fail
  rw [← E0.out]
  go_upto_region 2 with ((go_at_call 6; refine (K0.out).mono ?_; rintro e w1 ⟨rfl, hb1⟩))
  have HB1 := hide (HB0.out.trans (hb1.mono HB0.out.size))
  have HA1 := hide (HA0.out.below hb1 HA0.out.lt)
  have HC1 := hide (HC0.out.below hb1 HC0.out.lt)
  clear hb1 HA0 HC0 HB0 K0
  by_cases h200 : s.size ≤ 200
  · have t0 : ¬ (200 : Int) < (s.size : Int) := by omega
    go_wp2_with fail
    have hu := Tryd.underlying26
    have hi : (Tryd.prog.info? 26).map (·.size) = some (b8 a).length := by rw [LA.out]; kernel_rfl
    have hj : (Tryd.prog.info? 26).map (·.size) = some (b8 b).length := by rw [LB.out]; kernel_rfl
    have hone : ∀ l : List Int, ∀ v ∈ b8 l, v.oneCell' = true := fun l v hv => by
      obtain ⟨x, _, rfl⟩ := List.mem_map.1 (show v ∈ l.map (Value.int .u8) from hv)
      rfl
    have ho1 := hone a
    have ho2 := hone b
    have hl1 := LA.out
    have hl2 := LB.out
    clear hone
    go_cut [8, 9] (fun s8 s9 wx => s8 = .string (hashText a) ∧ s9 = .string (hashText b) ∧ Hid (Below w1.heap.size w1 wx))
    case first =>
      refine wp_region_noPanic ?_
      refine wp_region_held_drew (S := fun w' => w'.rangeAt w.heap.size 0 (b8 a) ∧ w'.rangeAt (w.heap.size + 1) 0 (b8 b) ∧ Below w1.heap.size w1 w') (by kernel_rfl) ?_ (fun hHeld => ?_)
      · (refine ⟨range_of HA1.out ?_, range_of HC1.out ?_, ?_⟩ <;> exact (by repeat' (first | with_reducible assumption | with_reducible exact Below.refl _ _ | with_reducible refine Below.setCell ?_ ?_ _ | with_reducible refine below_drewN ?_ _ | with_reducible refine Below.drew ?_ | with_reducible refine Below.alloc ?_ ?_ _ | with_reducible refine Below.trans ?_ (Below.mono (by with_reducible assumption) ?_) | omega | (simp; done) | (simp; omega))))
      refine' wpAnyH_take (i := 0) (oi := _) (v := _) rfl (by kernel_rfl) (by kernel_rfl) (by kernel_rfl) (fun _ _ _ h => h) (yieldsIf_load_mid (by rfl) _ _ rfl _ _ rfl _ _ ?hS ?hu ?hd ?hi) (by assumption) ?rest9
      case hS =>
        intro w hSw
        try dsimp only at hSw
        go_split_ands
        assumption
      case hu => assumption
      case hd => rfl
      case hi => first | assumption | (simp only [*]; done)
      case rest9 =>
      try simp only [Act.put, List.setIfInBounds_toArray]
      refine' wpAnyH_take (i := 2) (oi := _) (v := _) rfl (by kernel_rfl) (by kernel_rfl) (by kernel_rfl) (fun _ _ _ h => h) (yieldsIf_load_mid (by rfl) _ _ rfl _ _ rfl _ _ ?hS ?hu ?hd ?hi) (by assumption) ?rest9
      case hS =>
        intro w hSw
        try dsimp only at hSw
        go_split_ands
        assumption
      case hu => assumption
      case hd => rfl
      case hi => first | assumption | (simp only [*]; done)
      case rest9 =>
      try simp only [Act.put]
      refine wpAnyH_ready (rs := [1]) (by kernel_rfl) (by simp) ?_
      refine AllReadyH.cons rfl (fun K hK => ?_) AllReadyH.nil
      go_simp
      refine (TA.out _).mono ?_
      rintro e u1 ⟨rfl, hu1⟩
      have hB := Below.trans (B := w1.heap.size) (a := w1) (b := _) (c := u1) (by repeat' (first | with_reducible assumption | with_reducible exact Below.refl _ _ | with_reducible refine Below.setCell ?_ ?_ _ | with_reducible refine below_drewN ?_ _ | with_reducible refine Below.drew ?_ | with_reducible refine Below.alloc ?_ ?_ _ | with_reducible refine Below.trans ?_ (Below.mono (by with_reducible assumption) ?_) | omega | (simp; done) | (simp; omega))) (hu1.mono (by first | omega | (simp; done) | (simp; omega))); have := Below.size hB; clear hu1
      refine hK.out _ _ ?_ (fun hHeld => ?_)
      · (refine ⟨range_of HA1.out ?_, range_of HC1.out ?_, ?_⟩ <;> exact (by repeat' (first | with_reducible assumption | with_reducible exact Below.refl _ _ | with_reducible refine Below.setCell ?_ ?_ _ | with_reducible refine below_drewN ?_ _ | with_reducible refine Below.drew ?_ | with_reducible refine Below.alloc ?_ ?_ _ | with_reducible refine Below.trans ?_ (Below.mono (by with_reducible assumption) ?_) | omega | (simp; done) | (simp; omega))))
      clear hK K
      try simp only [Act.put, List.setIfInBounds_toArray, List.set_cons_zero, List.set_cons_succ]
      refine wpAnyH_ready (rs := [3]) (by kernel_rfl) (by simp) ?_
      refine AllReadyH.cons rfl (fun K hK => ?_) AllReadyH.nil
      go_simp
      refine (TB.out _).mono ?_
      rintro e u2 ⟨rfl, hu2⟩
      have hB := Below.trans (B := w1.heap.size) (a := w1) (b := _) (c := u2) (by repeat' (first | with_reducible assumption | with_reducible exact Below.refl _ _ | with_reducible refine Below.setCell ?_ ?_ _ | with_reducible refine below_drewN ?_ _ | with_reducible refine Below.drew ?_ | with_reducible refine Below.alloc ?_ ?_ _ | with_reducible refine Below.trans ?_ (Below.mono (by with_reducible assumption) ?_) | omega | (simp; done) | (simp; omega))) (hu2.mono (by first | omega | (simp; done) | (simp; omega))); have := Below.size hB; clear hu2
      refine hK.out _ _ ?_ (fun hHeld => ?_)
      · (refine ⟨range_of HA1.out ?_, range_of HC1.out ?_, ?_⟩ <;> exact (by repeat' (first | with_reducible assumption | with_reducible exact Below.refl _ _ | with_reducible refine Below.setCell ?_ ?_ _ | with_reducible refine below_drewN ?_ _ | with_reducible refine Below.drew ?_ | with_reducible refine Below.alloc ?_ ?_ _ | with_reducible refine Below.trans ?_ (Below.mono (by with_reducible assumption) ?_) | omega | (simp; done) | (simp; omega))))
      clear hK K
      try simp only [Act.put, List.setIfInBounds_toArray, List.set_cons_zero, List.set_cons_succ]
      refine' wpAnyH_take (i := 4) (oi := _) (v := _) rfl (by kernel_rfl) (by kernel_rfl) (by kernel_rfl) (fun _ _ _ h => h) (Or.inl ⟨by rfl, ?hy⟩) (by assumption) ?rest9
      case hy =>
        intro w hSw
        try dsimp only at hSw
        go_simp
        try with_reducible rfl
      case rest9 =>
      try simp only [List.getElem_toArray, List.getElem_cons_succ, List.getElem_cons_zero, Act.put, List.setIfInBounds_toArray, List.set_cons_zero, List.set_cons_succ]
      refine' wpAnyH_take (i := 5) (oi := _) (v := _) rfl (by kernel_rfl) (by kernel_rfl) (by kernel_rfl) (fun _ _ _ h => h) (Or.inl ⟨by rfl, ?hy⟩) (by assumption) ?rest9
      case hy =>
        intro w hSw
        try dsimp only at hSw
        go_simp
        try with_reducible rfl
      case rest9 =>
      try simp only [List.getElem_toArray, List.getElem_cons_succ, List.getElem_cons_zero, Act.put, List.setIfInBounds_toArray, List.set_cons_zero, List.set_cons_succ]
      refine wpAnyH_done (by kernel_rfl) ?_ _
      refine NoPanic.normal ?_
      go_wp2_with fail
      go_meet
      refine ⟨rfl, rfl, ?_⟩
      exact hide (by with_reducible assumption)
    case rest =>
    obtain ⟨rfl, rfl, HBx⟩ := hcut
    have HA2 := hide (HA1.out.below HBx.out HA1.out.lt)
    have HC2 := hide (HC1.out.below HBx.out HC1.out.lt)
    have HB2 := hide (HB1.out.trans (HBx.out.mono HB1.out.size))
    clear HBx HA1 HC1 HB1 hu hi hj ho1 ho2 hl1 hl2
    go_upto_region 5 with fail
    refine wp_region_lit ?_
    with_reducible refine sV (.string (hashText a)) wc (by kernel_rfl) (by kernel_rfl) ?_
    simp only [Act.put, List.setIfInBounds_toArray, List.set_cons_succ, List.set_cons_zero]
    refine sC (by kernel_rfl) (by kernel_rfl) (RA.out wc) ?_
    intro u5 hb5
    simp only [Act.put, List.setIfInBounds_toArray, List.set_cons_succ, List.set_cons_zero]
    with_reducible refine sV (.tuple #[.agg (b8 a).toArray, .int .i64 0]) u5 (by kernel_rfl) (by kernel_rfl) ?_
    simp only [Act.put, List.setIfInBounds_toArray, List.set_cons_succ, List.set_cons_zero]
    with_reducible refine sV (.agg (b8 a).toArray) u5 (by kernel_rfl) (by kernel_rfl) ?_
    simp only [Act.put, List.setIfInBounds_toArray, List.set_cons_succ, List.set_cons_zero]
    with_reducible refine sV (.int .i64 0) u5 (by kernel_rfl) (by kernel_rfl) ?_
    simp only [Act.put, List.setIfInBounds_toArray, List.set_cons_succ, List.set_cons_zero]
    refine stepVal (v := .pointer (some ⟨u5.heap.size, 0, none⟩)) (w' := u5.alloc (.cells (b8 zH).toArray 26)) (by rfl) (alH _ _ rfl u5) ?_
    simp only [Act.put, List.setIfInBounds_toArray, List.set_cons_succ, List.set_cons_zero]
    refine stepStore (by rfl) _ _ _ (by rfl) _ (b8 a) (by kernel_rfl) (by kernel_rfl) (At.new u5 26 (b8 zH)) 32 (by kernel_rfl) (by rw [b8_len]; rfl) LA.out (oneCells_b8 _) ?_
    simp only [Act.put]
    obtain ⟨H5, eH⟩ : ∃ H, H = u5.heap.size := ⟨_, rfl⟩
    obtain ⟨W5, eW⟩ : ∃ X, X = (u5.alloc (.cells (b8 zH).toArray 26)).setRow u5.heap.size (b8 a).toArray := ⟨_, rfl⟩
    have hAn : At W5 H5 26 (b8 a) := by rw [eW, eH]; exact (At.new u5 26 (b8 zH)).put _
    have hBn : Below u5.heap.size u5 W5 := by rw [eW]; exact Below.setRowOwn (Below.alloc (Below.refl _ _) (Nat.le_refl _) _) (Nat.le_refl _) _
    rw [← eW, ← eH]
    have HA5 := hide ((HA2.out.below hb5 HA2.out.lt).below hBn (HA2.out.below hb5 HA2.out.lt).lt)
    have HC5 := hide ((HC2.out.below hb5 HC2.out.lt).below hBn (HC2.out.below hb5 HC2.out.lt).lt)
    have HB5 := hide ((HB2.out.trans (hb5.mono HB2.out.size)).trans (hBn.mono (Below.size (HB2.out.trans (hb5.mono HB2.out.size)))))
    have HH5 := hide hAn
    clear hb5 hBn hAn eW eH HA2 HC2 HB2
    by_cases hok : okS s
    · have HOK := hide hok
      obtain ⟨Y, hY⟩ : ∃ Y, Y = rdL s := ⟨_, rfl⟩
      have LY := hide (show Y.length = 32 by rw [hY]; exact rp_len s 64)
      have TY := hide (fun W => text_any W Y LY.out (by rw [hY]; exact rd_rng s hok))
      rw [hY, text_rd s hok, ← hY] at TY
      have RY := hide (fun W => read_any W s (.tuple #[.agg (b8 Y).toArray, .int .i64 0]) (fun _ => by rw [hY]; rfl) (fun h => absurd hok h))
      clear hY HOK
      clear hok
      go_upto_region 6 with fail
      refine wp_region_lit ?_
      with_reducible refine sV (.string s) W5 (by kernel_rfl) (by kernel_rfl) ?_
      simp only [Act.put, List.setIfInBounds_toArray, List.set_cons_succ, List.set_cons_zero]
      refine sC (by kernel_rfl) (by kernel_rfl) (RY.out W5) ?_
      intro u6 hb6
      simp only [Act.put, List.setIfInBounds_toArray, List.set_cons_succ, List.set_cons_zero]
      with_reducible refine sV (.tuple #[.agg (b8 Y).toArray, .int .i64 0]) u6 (by kernel_rfl) (by kernel_rfl) ?_
      simp only [Act.put, List.setIfInBounds_toArray, List.set_cons_succ, List.set_cons_zero]
      with_reducible refine sV (.agg (b8 Y).toArray) u6 (by kernel_rfl) (by kernel_rfl) ?_
      simp only [Act.put, List.setIfInBounds_toArray, List.set_cons_succ, List.set_cons_zero]
      with_reducible refine sV (.int .i64 0) u6 (by kernel_rfl) (by kernel_rfl) ?_
      simp only [Act.put, List.setIfInBounds_toArray, List.set_cons_succ, List.set_cons_zero]
      refine stepVal (v := .pointer (some ⟨u6.heap.size, 0, none⟩)) (w' := u6.alloc (.cells (b8 zH).toArray 26)) (by rfl) (alH _ _ rfl u6) ?_
      simp only [Act.put, List.setIfInBounds_toArray, List.set_cons_succ, List.set_cons_zero]
      refine stepStore (by rfl) _ _ _ (by rfl) _ (b8 Y) (by kernel_rfl) (by kernel_rfl) (At.new u6 26 (b8 zH)) 32 (by kernel_rfl) (by rw [b8_len]; rfl) (by rw [b8_len]; exact LY.out) (oneCells_b8 _) ?_
      simp only [Act.put]
      obtain ⟨H6, eH⟩ : ∃ H, H = u6.heap.size := ⟨_, rfl⟩
      obtain ⟨W6, eW⟩ : ∃ X, X = (u6.alloc (.cells (b8 zH).toArray 26)).setRow u6.heap.size (b8 Y).toArray := ⟨_, rfl⟩
      have hAn : At W6 H6 26 (b8 Y) := by rw [eW, eH]; exact (At.new u6 26 (b8 zH)).put _
      have hBn : Below u6.heap.size u6 W6 := by rw [eW]; exact Below.setRowOwn (Below.alloc (Below.refl _ _) (Nat.le_refl _) _) (Nat.le_refl _) _
      rw [← eW, ← eH]
      have HA6 := hide (((HA5.out).below hb6 (HA5.out).lt).below hBn ((HA5.out).below hb6 (HA5.out).lt).lt)
      have HC6 := hide (((HC5.out).below hb6 (HC5.out).lt).below hBn ((HC5.out).below hb6 (HC5.out).lt).lt)
      have HH6 := hide (((HH5.out).below hb6 (HH5.out).lt).below hBn ((HH5.out).below hb6 (HH5.out).lt).lt)
      have HB6 := hide ((HB5.out.trans (hb6.mono HB5.out.size)).trans (hBn.mono (Below.size (HB5.out.trans (hb6.mono HB5.out.size)))))
      have HY6 := hide hAn
      clear hb6 hBn hAn eW eH HA5 HC5 HB5 HH5
      go_upto_region 7 with fail
      refine wp_region_lit ?_
      with_reducible refine sV (.string (hashText a)) W6 (by kernel_rfl) (by kernel_rfl) ?_
      simp only [Act.put, List.setIfInBounds_toArray, List.set_cons_succ, List.set_cons_zero]
      with_reducible refine sV (.int .i64 ((hashText a).size : Int)) W6 (by kernel_rfl) (by kernel_rfl) ?_
      simp only [Act.put, List.setIfInBounds_toArray, List.set_cons_succ, List.set_cons_zero]
      rw [HSA.out]
      with_reducible refine sV (.bool false) W6 (by kernel_rfl) (by kernel_rfl) ?_
      simp only [Act.put, List.setIfInBounds_toArray, List.set_cons_succ, List.set_cons_zero]
      with_reducible refine sV (.bool false) W6 (by kernel_rfl) (by kernel_rfl) ?_
      simp only [Act.put, List.setIfInBounds_toArray, List.set_cons_succ, List.set_cons_zero]
      refine sL (by kernel_rfl) _ _ (by rfl) _ (by kernel_rfl) HH6.out _ 32 Tryd.underlying26 rfl (by kernel_rfl) LA.out ?_
      simp only [Act.put, List.setIfInBounds_toArray, List.set_cons_succ, List.set_cons_zero]
      refine sL (by kernel_rfl) _ _ (by rfl) _ (by kernel_rfl) HA6.out _ 32 Tryd.underlying26 rfl (by kernel_rfl) LA.out ?_
      simp only [Act.put, List.setIfInBounds_toArray, List.set_cons_succ, List.set_cons_zero]
      refine sB (by kernel_rfl) .neq 26 _ _ _ (by rfl) (.agg (b8 a).toArray) (.agg (b8 a).toArray) (by kernel_rfl) (by kernel_rfl) (.bool false) (NAA.out _) (by kernel_rfl) ?_
      simp only [Act.put, List.setIfInBounds_toArray, List.set_cons_succ, List.set_cons_zero]
      with_reducible refine sV (.bool false) W6 (by kernel_rfl) (by kernel_rfl) ?_
      simp only [Act.put, List.setIfInBounds_toArray, List.set_cons_succ, List.set_cons_zero]
      with_reducible refine sV (.bool false) W6 (by kernel_rfl) (by kernel_rfl) ?_
      simp only [Act.put, List.setIfInBounds_toArray, List.set_cons_succ, List.set_cons_zero]
      with_reducible refine sV (.int .i64 0) W6 (by kernel_rfl) (by kernel_rfl) ?_
      simp only [Act.put, List.setIfInBounds_toArray, List.set_cons_succ, List.set_cons_zero]
      with_reducible refine sV (.bool false) W6 (by kernel_rfl) (by kernel_rfl) ?_
      simp only [Act.put, List.setIfInBounds_toArray, List.set_cons_succ, List.set_cons_zero]
      with_reducible refine sV (.bool false) W6 (by kernel_rfl) (by kernel_rfl) ?_
      simp only [Act.put, List.setIfInBounds_toArray, List.set_cons_succ, List.set_cons_zero]
      with_reducible refine sV (.bool false) W6 (by kernel_rfl) (by kernel_rfl) ?_
      simp only [Act.put, List.setIfInBounds_toArray, List.set_cons_succ, List.set_cons_zero]
      with_reducible refine sV (.int .i64 0) W6 (by kernel_rfl) (by kernel_rfl) ?_
      simp only [Act.put, List.setIfInBounds_toArray, List.set_cons_succ, List.set_cons_zero]
      with_reducible refine sV (.bool true) W6 (by kernel_rfl) (by kernel_rfl) ?_
      simp only [Act.put, List.setIfInBounds_toArray, List.set_cons_succ, List.set_cons_zero]
      with_reducible refine sV (.bool true) W6 (by kernel_rfl) (by kernel_rfl) ?_
      simp only [Act.put, List.setIfInBounds_toArray, List.set_cons_succ, List.set_cons_zero]
      refine sL (by kernel_rfl) _ _ (by rfl) _ (by kernel_rfl) HY6.out _ 32 Tryd.underlying26 rfl (by kernel_rfl) (by rw [b8_len]; exact LY.out) ?_
      simp only [Act.put, List.setIfInBounds_toArray, List.set_cons_succ, List.set_cons_zero]
      refine sC (by kernel_rfl) (by kernel_rfl) (TY.out W6) ?_
      intro u7 hb7
      simp only [Act.put, List.setIfInBounds_toArray, List.set_cons_succ, List.set_cons_zero]
      with_reducible refine sV (.string s) u7 (by kernel_rfl) (by kernel_rfl) ?_
      simp only [Act.put, List.setIfInBounds_toArray, List.set_cons_succ, List.set_cons_zero]
      refine sB (by kernel_rfl) .neq 9 _ _ _ (by rfl) (.string s) (.string s) (by kernel_rfl) (by kernel_rfl) (.bool false) (NSS.out _) (by kernel_rfl) ?_
      simp only [Act.put, List.setIfInBounds_toArray, List.set_cons_succ, List.set_cons_zero]
      with_reducible refine sV (.bool false) u7 (by kernel_rfl) (by kernel_rfl) ?_
      simp only [Act.put, List.setIfInBounds_toArray, List.set_cons_succ, List.set_cons_zero]
      with_reducible refine sV (.bool false) u7 (by kernel_rfl) (by kernel_rfl) ?_
      simp only [Act.put, List.setIfInBounds_toArray, List.set_cons_succ, List.set_cons_zero]
      with_reducible refine sV (.bool false) u7 (by kernel_rfl) (by kernel_rfl) ?_
      simp only [Act.put, List.setIfInBounds_toArray, List.set_cons_succ, List.set_cons_zero]
      with_reducible refine sV (.int .i64 0) u7 (by kernel_rfl) (by kernel_rfl) ?_
      simp only [Act.put, List.setIfInBounds_toArray, List.set_cons_succ, List.set_cons_zero]
      with_reducible refine sV (.bool false) u7 (by kernel_rfl) (by kernel_rfl) ?_
      simp only [Act.put, List.setIfInBounds_toArray, List.set_cons_succ, List.set_cons_zero]
      with_reducible refine sV (.bool false) u7 (by kernel_rfl) (by kernel_rfl) ?_
      simp only [Act.put, List.setIfInBounds_toArray, List.set_cons_succ, List.set_cons_zero]
      with_reducible refine sS (by kernel_rfl) ?_
      simp only [Act.put, List.setIfInBounds_toArray, List.set_cons_succ, List.set_cons_zero]
      with_reducible refine sS (by kernel_rfl) ?_
      simp only [Act.put, List.setIfInBounds_toArray, List.set_cons_succ, List.set_cons_zero]
      with_reducible refine sS (by kernel_rfl) ?_
      simp only [Act.put, List.setIfInBounds_toArray, List.set_cons_succ, List.set_cons_zero]
      with_reducible refine sS (by kernel_rfl) ?_
      simp only [Act.put, List.setIfInBounds_toArray, List.set_cons_succ, List.set_cons_zero]
      with_reducible refine sS (by kernel_rfl) ?_
      simp only [Act.put, List.setIfInBounds_toArray, List.set_cons_succ, List.set_cons_zero]
      with_reducible refine sS (by kernel_rfl) ?_
      simp only [Act.put, List.setIfInBounds_toArray, List.set_cons_succ, List.set_cons_zero]
      with_reducible refine sS (by kernel_rfl) ?_
      simp only [Act.put, List.setIfInBounds_toArray, List.set_cons_succ, List.set_cons_zero]
      with_reducible refine sV (.bool false) u7 (by kernel_rfl) (by kernel_rfl) ?_
      simp only [Act.put, List.setIfInBounds_toArray, List.set_cons_succ, List.set_cons_zero]
      with_reducible refine sV (.bool false) u7 (by kernel_rfl) (by kernel_rfl) ?_
      simp only [Act.put, List.setIfInBounds_toArray, List.set_cons_succ, List.set_cons_zero]
      have HA7 := hide (HA6.out.below hb7 HA6.out.lt)
      have HC7 := hide (HC6.out.below hb7 HC6.out.lt)
      have HB7 := hide (HB6.out.trans (hb7.mono HB6.out.size))
      clear hb7 HA6 HC6 HH6 HB6 HY6
      have hgt := gtr_string (hashText a) (hashText b)
      rcases O3.out with ⟨h1, h2, h3, h4⟩ | ⟨h1, h0, h2, h3, h4⟩ | ⟨h1, h0, h2, h3, h4⟩
      · clear hgt
        have CAB' := CAB.out
        have CBA' := CBA.out
        have EAB' := EAB.out
        rw [h2] at CAB'
        rw [h3] at CBA'
        rw [h4] at EAB'
        have C1 := hide CAB'
        have C2 := hide CBA'
        have C3 := hide EAB'
        clear CAB' CBA' EAB' h2 h3 h4
        go_upto_region 14 with fail
        refine wp_region_lit ?_
        with_reducible refine sV (.bool true) u7 (by kernel_rfl) (by kernel_rfl) ?_
        simp only [Act.put, List.setIfInBounds_toArray, List.set_cons_succ, List.set_cons_zero]
        with_reducible refine sV (.bool true) u7 (by kernel_rfl) (by kernel_rfl) ?_
        simp only [Act.put, List.setIfInBounds_toArray, List.set_cons_succ, List.set_cons_zero]
        refine sL (by kernel_rfl) _ _ (by rfl) _ (by kernel_rfl) HA7.out _ 32 Tryd.underlying26 rfl (by kernel_rfl) LA.out ?_
        simp only [Act.put, List.setIfInBounds_toArray, List.set_cons_succ, List.set_cons_zero]
        refine sL (by kernel_rfl) _ _ (by rfl) _ (by kernel_rfl) HC7.out _ 32 Tryd.underlying26 rfl (by kernel_rfl) LB.out ?_
        simp only [Act.put, List.setIfInBounds_toArray, List.set_cons_succ, List.set_cons_zero]
        refine sC (by kernel_rfl) (by kernel_rfl) (C1.out u7) ?_
        intro x1 hx1
        simp only [Act.put, List.setIfInBounds_toArray, List.set_cons_succ, List.set_cons_zero]
        with_reducible refine sV (.int .i64 (-1)) x1 (by kernel_rfl) (by kernel_rfl) ?_
        simp only [Act.put, List.setIfInBounds_toArray, List.set_cons_succ, List.set_cons_zero]
        with_reducible refine sV (.bool true) x1 (by kernel_rfl) (by kernel_rfl) ?_
        simp only [Act.put, List.setIfInBounds_toArray, List.set_cons_succ, List.set_cons_zero]
        with_reducible refine sV (.bool true) x1 (by kernel_rfl) (by kernel_rfl) ?_
        simp only [Act.put, List.setIfInBounds_toArray, List.set_cons_succ, List.set_cons_zero]
        with_reducible refine sV (.bool true) x1 (by kernel_rfl) (by kernel_rfl) ?_
        simp only [Act.put, List.setIfInBounds_toArray, List.set_cons_succ, List.set_cons_zero]
        refine sL (by kernel_rfl) _ _ (by rfl) _ (by kernel_rfl) (HC7.out.below hx1 HC7.out.lt) _ 32 Tryd.underlying26 rfl (by kernel_rfl) LB.out ?_
        simp only [Act.put, List.setIfInBounds_toArray, List.set_cons_succ, List.set_cons_zero]
        refine sL (by kernel_rfl) _ _ (by rfl) _ (by kernel_rfl) (HA7.out.below hx1 HA7.out.lt) _ 32 Tryd.underlying26 rfl (by kernel_rfl) LA.out ?_
        simp only [Act.put, List.setIfInBounds_toArray, List.set_cons_succ, List.set_cons_zero]
        refine sC (by kernel_rfl) (by kernel_rfl) (C2.out x1) ?_
        intro x2 hx2
        simp only [Act.put, List.setIfInBounds_toArray, List.set_cons_succ, List.set_cons_zero]
        with_reducible refine sV (.int .i64 (-1)) x2 (by kernel_rfl) (by kernel_rfl) ?_
        simp only [Act.put, List.setIfInBounds_toArray, List.set_cons_succ, List.set_cons_zero]
        with_reducible refine sV (.int .i64 1) x2 (by kernel_rfl) (by kernel_rfl) ?_
        simp only [Act.put, List.setIfInBounds_toArray, List.set_cons_succ, List.set_cons_zero]
        with_reducible refine sV (.bool true) x2 (by kernel_rfl) (by kernel_rfl) ?_
        simp only [Act.put, List.setIfInBounds_toArray, List.set_cons_succ, List.set_cons_zero]
        with_reducible refine sV (.bool true) x2 (by kernel_rfl) (by kernel_rfl) ?_
        simp only [Act.put, List.setIfInBounds_toArray, List.set_cons_succ, List.set_cons_zero]
        with_reducible refine sV (.bool true) x2 (by kernel_rfl) (by kernel_rfl) ?_
        simp only [Act.put, List.setIfInBounds_toArray, List.set_cons_succ, List.set_cons_zero]
        refine sL (by kernel_rfl) _ _ (by rfl) _ (by kernel_rfl) ((HA7.out.below hx1 HA7.out.lt).below hx2 (HA7.out.below hx1 HA7.out.lt).lt) _ 32 Tryd.underlying26 rfl (by kernel_rfl) LA.out ?_
        simp only [Act.put, List.setIfInBounds_toArray, List.set_cons_succ, List.set_cons_zero]
        refine sL (by kernel_rfl) _ _ (by rfl) _ (by kernel_rfl) ((HC7.out.below hx1 HC7.out.lt).below hx2 (HC7.out.below hx1 HC7.out.lt).lt) _ 32 Tryd.underlying26 rfl (by kernel_rfl) LB.out ?_
        simp only [Act.put, List.setIfInBounds_toArray, List.set_cons_succ, List.set_cons_zero]
        refine sB (by kernel_rfl) .eql 26 _ _ _ (by rfl) (.agg (b8 a).toArray) (.agg (b8 b).toArray) (by kernel_rfl) (by kernel_rfl) (.bool false) (C3.out _) (by kernel_rfl) ?_
        simp only [Act.put, List.setIfInBounds_toArray, List.set_cons_succ, List.set_cons_zero]
        with_reducible refine sV (.int .i64 (-1)) x2 (by kernel_rfl) (by kernel_rfl) ?_
        simp only [Act.put, List.setIfInBounds_toArray, List.set_cons_succ, List.set_cons_zero]
        with_reducible refine sV (.bool false) x2 (by kernel_rfl) (by kernel_rfl) ?_
        simp only [Act.put, List.setIfInBounds_toArray, List.set_cons_succ, List.set_cons_zero]
        with_reducible refine sV (.bool true) x2 (by kernel_rfl) (by kernel_rfl) ?_
        simp only [Act.put, List.setIfInBounds_toArray, List.set_cons_succ, List.set_cons_zero]
        with_reducible refine sV (.bool true) x2 (by kernel_rfl) (by kernel_rfl) ?_
        simp only [Act.put, List.setIfInBounds_toArray, List.set_cons_succ, List.set_cons_zero]
        have HF := hide ((HB7.out.trans (hx1.mono HB7.out.size)).trans (hx2.mono (Below.size (HB7.out.trans (hx1.mono HB7.out.size)))))
        clear hx1 hx2
        go_wp2_with fail
        go_ret
        exact ⟨rfl, HF.out⟩
      · rw [h1, h0] at hgt
        simp only [Bool.not_false, Bool.not_true, Bool.and_false] at hgt
        have CAB' := CAB.out
        have CBA' := CBA.out
        have EAB' := EAB.out
        rw [h2] at CAB'
        rw [h3] at CBA'
        rw [h4] at EAB'
        have C1 := hide CAB'
        have C2 := hide CBA'
        have C3 := hide EAB'
        clear CAB' CBA' EAB' h2 h3 h4
        go_upto_region 14 with fail
        refine wp_region_lit ?_
        with_reducible refine sV (.bool true) u7 (by kernel_rfl) (by kernel_rfl) ?_
        simp only [Act.put, List.setIfInBounds_toArray, List.set_cons_succ, List.set_cons_zero]
        with_reducible refine sV (.bool true) u7 (by kernel_rfl) (by kernel_rfl) ?_
        simp only [Act.put, List.setIfInBounds_toArray, List.set_cons_succ, List.set_cons_zero]
        refine sL (by kernel_rfl) _ _ (by rfl) _ (by kernel_rfl) HA7.out _ 32 Tryd.underlying26 rfl (by kernel_rfl) LA.out ?_
        simp only [Act.put, List.setIfInBounds_toArray, List.set_cons_succ, List.set_cons_zero]
        refine sL (by kernel_rfl) _ _ (by rfl) _ (by kernel_rfl) HC7.out _ 32 Tryd.underlying26 rfl (by kernel_rfl) LB.out ?_
        simp only [Act.put, List.setIfInBounds_toArray, List.set_cons_succ, List.set_cons_zero]
        refine sC (by kernel_rfl) (by kernel_rfl) (C1.out u7) ?_
        intro x1 hx1
        simp only [Act.put, List.setIfInBounds_toArray, List.set_cons_succ, List.set_cons_zero]
        with_reducible refine sV (.int .i64 0) x1 (by kernel_rfl) (by kernel_rfl) ?_
        simp only [Act.put, List.setIfInBounds_toArray, List.set_cons_succ, List.set_cons_zero]
        with_reducible refine sV (.bool true) x1 (by kernel_rfl) (by kernel_rfl) ?_
        simp only [Act.put, List.setIfInBounds_toArray, List.set_cons_succ, List.set_cons_zero]
        with_reducible refine sV (.bool true) x1 (by kernel_rfl) (by kernel_rfl) ?_
        simp only [Act.put, List.setIfInBounds_toArray, List.set_cons_succ, List.set_cons_zero]
        with_reducible refine sV (.bool true) x1 (by kernel_rfl) (by kernel_rfl) ?_
        simp only [Act.put, List.setIfInBounds_toArray, List.set_cons_succ, List.set_cons_zero]
        refine sL (by kernel_rfl) _ _ (by rfl) _ (by kernel_rfl) (HC7.out.below hx1 HC7.out.lt) _ 32 Tryd.underlying26 rfl (by kernel_rfl) LB.out ?_
        simp only [Act.put, List.setIfInBounds_toArray, List.set_cons_succ, List.set_cons_zero]
        refine sL (by kernel_rfl) _ _ (by rfl) _ (by kernel_rfl) (HA7.out.below hx1 HA7.out.lt) _ 32 Tryd.underlying26 rfl (by kernel_rfl) LA.out ?_
        simp only [Act.put, List.setIfInBounds_toArray, List.set_cons_succ, List.set_cons_zero]
        refine sC (by kernel_rfl) (by kernel_rfl) (C2.out x1) ?_
        intro x2 hx2
        simp only [Act.put, List.setIfInBounds_toArray, List.set_cons_succ, List.set_cons_zero]
        with_reducible refine sV (.int .i64 0) x2 (by kernel_rfl) (by kernel_rfl) ?_
        simp only [Act.put, List.setIfInBounds_toArray, List.set_cons_succ, List.set_cons_zero]
        with_reducible refine sV (.int .i64 0) x2 (by kernel_rfl) (by kernel_rfl) ?_
        simp only [Act.put, List.setIfInBounds_toArray, List.set_cons_succ, List.set_cons_zero]
        with_reducible refine sV (.bool true) x2 (by kernel_rfl) (by kernel_rfl) ?_
        simp only [Act.put, List.setIfInBounds_toArray, List.set_cons_succ, List.set_cons_zero]
        with_reducible refine sV (.bool true) x2 (by kernel_rfl) (by kernel_rfl) ?_
        simp only [Act.put, List.setIfInBounds_toArray, List.set_cons_succ, List.set_cons_zero]
        with_reducible refine sV (.bool true) x2 (by kernel_rfl) (by kernel_rfl) ?_
        simp only [Act.put, List.setIfInBounds_toArray, List.set_cons_succ, List.set_cons_zero]
        refine sL (by kernel_rfl) _ _ (by rfl) _ (by kernel_rfl) ((HA7.out.below hx1 HA7.out.lt).below hx2 (HA7.out.below hx1 HA7.out.lt).lt) _ 32 Tryd.underlying26 rfl (by kernel_rfl) LA.out ?_
        simp only [Act.put, List.setIfInBounds_toArray, List.set_cons_succ, List.set_cons_zero]
        refine sL (by kernel_rfl) _ _ (by rfl) _ (by kernel_rfl) ((HC7.out.below hx1 HC7.out.lt).below hx2 (HC7.out.below hx1 HC7.out.lt).lt) _ 32 Tryd.underlying26 rfl (by kernel_rfl) LB.out ?_
        simp only [Act.put, List.setIfInBounds_toArray, List.set_cons_succ, List.set_cons_zero]
        refine sB (by kernel_rfl) .eql 26 _ _ _ (by rfl) (.agg (b8 a).toArray) (.agg (b8 b).toArray) (by kernel_rfl) (by kernel_rfl) (.bool true) (C3.out _) (by kernel_rfl) ?_
        simp only [Act.put, List.setIfInBounds_toArray, List.set_cons_succ, List.set_cons_zero]
        with_reducible refine sV (.int .i64 0) x2 (by kernel_rfl) (by kernel_rfl) ?_
        simp only [Act.put, List.setIfInBounds_toArray, List.set_cons_succ, List.set_cons_zero]
        with_reducible refine sV (.bool true) x2 (by kernel_rfl) (by kernel_rfl) ?_
        simp only [Act.put, List.setIfInBounds_toArray, List.set_cons_succ, List.set_cons_zero]
        with_reducible refine sV (.bool true) x2 (by kernel_rfl) (by kernel_rfl) ?_
        simp only [Act.put, List.setIfInBounds_toArray, List.set_cons_succ, List.set_cons_zero]
        with_reducible refine sV (.bool true) x2 (by kernel_rfl) (by kernel_rfl) ?_
        simp only [Act.put, List.setIfInBounds_toArray, List.set_cons_succ, List.set_cons_zero]
        have HF := hide ((HB7.out.trans (hx1.mono HB7.out.size)).trans (hx2.mono (Below.size (HB7.out.trans (hx1.mono HB7.out.size)))))
        clear hx1 hx2
        go_wp2_with fail
        go_ret
        exact ⟨rfl, HF.out⟩
      · rw [h1, h0] at hgt
        simp only [Bool.not_false, Bool.and_true] at hgt
        have CAB' := CAB.out
        have CBA' := CBA.out
        have EAB' := EAB.out
        rw [h2] at CAB'
        rw [h3] at CBA'
        rw [h4] at EAB'
        have C1 := hide CAB'
        have C2 := hide CBA'
        have C3 := hide EAB'
        clear CAB' CBA' EAB' h2 h3 h4
        go_upto_region 14 with fail
        refine wp_region_lit ?_
        with_reducible refine sV (.bool true) u7 (by kernel_rfl) (by kernel_rfl) ?_
        simp only [Act.put, List.setIfInBounds_toArray, List.set_cons_succ, List.set_cons_zero]
        with_reducible refine sV (.bool true) u7 (by kernel_rfl) (by kernel_rfl) ?_
        simp only [Act.put, List.setIfInBounds_toArray, List.set_cons_succ, List.set_cons_zero]
        refine sL (by kernel_rfl) _ _ (by rfl) _ (by kernel_rfl) HA7.out _ 32 Tryd.underlying26 rfl (by kernel_rfl) LA.out ?_
        simp only [Act.put, List.setIfInBounds_toArray, List.set_cons_succ, List.set_cons_zero]
        refine sL (by kernel_rfl) _ _ (by rfl) _ (by kernel_rfl) HC7.out _ 32 Tryd.underlying26 rfl (by kernel_rfl) LB.out ?_
        simp only [Act.put, List.setIfInBounds_toArray, List.set_cons_succ, List.set_cons_zero]
        refine sC (by kernel_rfl) (by kernel_rfl) (C1.out u7) ?_
        intro x1 hx1
        simp only [Act.put, List.setIfInBounds_toArray, List.set_cons_succ, List.set_cons_zero]
        with_reducible refine sV (.int .i64 1) x1 (by kernel_rfl) (by kernel_rfl) ?_
        simp only [Act.put, List.setIfInBounds_toArray, List.set_cons_succ, List.set_cons_zero]
        with_reducible refine sV (.bool true) x1 (by kernel_rfl) (by kernel_rfl) ?_
        simp only [Act.put, List.setIfInBounds_toArray, List.set_cons_succ, List.set_cons_zero]
        with_reducible refine sV (.bool true) x1 (by kernel_rfl) (by kernel_rfl) ?_
        simp only [Act.put, List.setIfInBounds_toArray, List.set_cons_succ, List.set_cons_zero]
        with_reducible refine sV (.bool true) x1 (by kernel_rfl) (by kernel_rfl) ?_
        simp only [Act.put, List.setIfInBounds_toArray, List.set_cons_succ, List.set_cons_zero]
        refine sL (by kernel_rfl) _ _ (by rfl) _ (by kernel_rfl) (HC7.out.below hx1 HC7.out.lt) _ 32 Tryd.underlying26 rfl (by kernel_rfl) LB.out ?_
        simp only [Act.put, List.setIfInBounds_toArray, List.set_cons_succ, List.set_cons_zero]
        refine sL (by kernel_rfl) _ _ (by rfl) _ (by kernel_rfl) (HA7.out.below hx1 HA7.out.lt) _ 32 Tryd.underlying26 rfl (by kernel_rfl) LA.out ?_
        simp only [Act.put, List.setIfInBounds_toArray, List.set_cons_succ, List.set_cons_zero]
        refine sC (by kernel_rfl) (by kernel_rfl) (C2.out x1) ?_
        intro x2 hx2
        simp only [Act.put, List.setIfInBounds_toArray, List.set_cons_succ, List.set_cons_zero]
        with_reducible refine sV (.int .i64 1) x2 (by kernel_rfl) (by kernel_rfl) ?_
        simp only [Act.put, List.setIfInBounds_toArray, List.set_cons_succ, List.set_cons_zero]
        with_reducible refine sV (.int .i64 (-1)) x2 (by kernel_rfl) (by kernel_rfl) ?_
        simp only [Act.put, List.setIfInBounds_toArray, List.set_cons_succ, List.set_cons_zero]
        with_reducible refine sV (.bool true) x2 (by kernel_rfl) (by kernel_rfl) ?_
        simp only [Act.put, List.setIfInBounds_toArray, List.set_cons_succ, List.set_cons_zero]
        with_reducible refine sV (.bool true) x2 (by kernel_rfl) (by kernel_rfl) ?_
        simp only [Act.put, List.setIfInBounds_toArray, List.set_cons_succ, List.set_cons_zero]
        with_reducible refine sV (.bool true) x2 (by kernel_rfl) (by kernel_rfl) ?_
        simp only [Act.put, List.setIfInBounds_toArray, List.set_cons_succ, List.set_cons_zero]
        refine sL (by kernel_rfl) _ _ (by rfl) _ (by kernel_rfl) ((HA7.out.below hx1 HA7.out.lt).below hx2 (HA7.out.below hx1 HA7.out.lt).lt) _ 32 Tryd.underlying26 rfl (by kernel_rfl) LA.out ?_
        simp only [Act.put, List.setIfInBounds_toArray, List.set_cons_succ, List.set_cons_zero]
        refine sL (by kernel_rfl) _ _ (by rfl) _ (by kernel_rfl) ((HC7.out.below hx1 HC7.out.lt).below hx2 (HC7.out.below hx1 HC7.out.lt).lt) _ 32 Tryd.underlying26 rfl (by kernel_rfl) LB.out ?_
        simp only [Act.put, List.setIfInBounds_toArray, List.set_cons_succ, List.set_cons_zero]
        refine sB (by kernel_rfl) .eql 26 _ _ _ (by rfl) (.agg (b8 a).toArray) (.agg (b8 b).toArray) (by kernel_rfl) (by kernel_rfl) (.bool false) (C3.out _) (by kernel_rfl) ?_
        simp only [Act.put, List.setIfInBounds_toArray, List.set_cons_succ, List.set_cons_zero]
        with_reducible refine sV (.int .i64 1) x2 (by kernel_rfl) (by kernel_rfl) ?_
        simp only [Act.put, List.setIfInBounds_toArray, List.set_cons_succ, List.set_cons_zero]
        with_reducible refine sV (.bool false) x2 (by kernel_rfl) (by kernel_rfl) ?_
        simp only [Act.put, List.setIfInBounds_toArray, List.set_cons_succ, List.set_cons_zero]
        with_reducible refine sV (.bool true) x2 (by kernel_rfl) (by kernel_rfl) ?_
        simp only [Act.put, List.setIfInBounds_toArray, List.set_cons_succ, List.set_cons_zero]
        with_reducible refine sV (.bool true) x2 (by kernel_rfl) (by kernel_rfl) ?_
        simp only [Act.put, List.setIfInBounds_toArray, List.set_cons_succ, List.set_cons_zero]
        have HF := hide ((HB7.out.trans (hx1.mono HB7.out.size)).trans (hx2.mono (Below.size (HB7.out.trans (hx1.mono HB7.out.size)))))
        clear hx1 hx2
        go_wp2_with fail
        go_ret
        exact ⟨rfl, HF.out⟩
    · have HOK := hide hok
      clear hok
      go_upto_region 6 with fail
      refine wp_region_lit ?_
      with_reducible refine sV (.string s) W5 (by kernel_rfl) (by kernel_rfl) ?_
      simp only [Act.put, List.setIfInBounds_toArray, List.set_cons_succ, List.set_cons_zero]
      refine sC (by kernel_rfl) (by kernel_rfl) (read_any W5 s tNo (fun h => absurd h HOK.out) (fun _ => rfl)) ?_
      intro u6 hb6
      simp only [Act.put, List.setIfInBounds_toArray, List.set_cons_succ, List.set_cons_zero]
      with_reducible refine sV (tNo) u6 (by kernel_rfl) (by kernel_rfl) ?_
      simp only [Act.put, List.setIfInBounds_toArray, List.set_cons_succ, List.set_cons_zero]
      with_reducible refine sV (.agg (b8 zH).toArray) u6 (by kernel_rfl) (by kernel_rfl) ?_
      simp only [Act.put, List.setIfInBounds_toArray, List.set_cons_succ, List.set_cons_zero]
      with_reducible refine sV (.int .i64 5) u6 (by kernel_rfl) (by kernel_rfl) ?_
      simp only [Act.put, List.setIfInBounds_toArray, List.set_cons_succ, List.set_cons_zero]
      refine stepVal (v := .pointer (some ⟨u6.heap.size, 0, none⟩)) (w' := u6.alloc (.cells (b8 zH).toArray 26)) (by rfl) (alH _ _ rfl u6) ?_
      simp only [Act.put, List.setIfInBounds_toArray, List.set_cons_succ, List.set_cons_zero]
      refine stepStore (by rfl) _ _ _ (by rfl) _ (b8 zH) (by kernel_rfl) (by kernel_rfl) (At.new u6 26 (b8 zH)) 32 (by kernel_rfl) (by rw [b8_len]; rfl) (by rw [b8_len]; rfl) (oneCells_b8 _) ?_
      simp only [Act.put]
      obtain ⟨H6, eH⟩ : ∃ H, H = u6.heap.size := ⟨_, rfl⟩
      obtain ⟨W6, eW⟩ : ∃ X, X = (u6.alloc (.cells (b8 zH).toArray 26)).setRow u6.heap.size (b8 zH).toArray := ⟨_, rfl⟩
      have hAn : At W6 H6 26 (b8 zH) := by rw [eW, eH]; exact (At.new u6 26 (b8 zH)).put _
      have hBn : Below u6.heap.size u6 W6 := by rw [eW]; exact Below.setRowOwn (Below.alloc (Below.refl _ _) (Nat.le_refl _) _) (Nat.le_refl _) _
      rw [← eW, ← eH]
      have HA6 := hide (((HA5.out).below hb6 (HA5.out).lt).below hBn ((HA5.out).below hb6 (HA5.out).lt).lt)
      have HC6 := hide (((HC5.out).below hb6 (HC5.out).lt).below hBn ((HC5.out).below hb6 (HC5.out).lt).lt)
      have HH6 := hide (((HH5.out).below hb6 (HH5.out).lt).below hBn ((HH5.out).below hb6 (HH5.out).lt).lt)
      have HB6 := hide ((HB5.out.trans (hb6.mono HB5.out.size)).trans (hBn.mono (Below.size (HB5.out.trans (hb6.mono HB5.out.size)))))
      have HY6 := hide hAn
      clear hb6 hBn hAn eW eH HA5 HC5 HB5 HH5
      go_upto_region 7 with fail
      refine wp_region_lit ?_
      with_reducible refine sV (.string (hashText a)) W6 (by kernel_rfl) (by kernel_rfl) ?_
      simp only [Act.put, List.setIfInBounds_toArray, List.set_cons_succ, List.set_cons_zero]
      with_reducible refine sV (.int .i64 ((hashText a).size : Int)) W6 (by kernel_rfl) (by kernel_rfl) ?_
      simp only [Act.put, List.setIfInBounds_toArray, List.set_cons_succ, List.set_cons_zero]
      rw [HSA.out]
      with_reducible refine sV (.bool false) W6 (by kernel_rfl) (by kernel_rfl) ?_
      simp only [Act.put, List.setIfInBounds_toArray, List.set_cons_succ, List.set_cons_zero]
      with_reducible refine sV (.bool false) W6 (by kernel_rfl) (by kernel_rfl) ?_
      simp only [Act.put, List.setIfInBounds_toArray, List.set_cons_succ, List.set_cons_zero]
      refine sL (by kernel_rfl) _ _ (by rfl) _ (by kernel_rfl) HH6.out _ 32 Tryd.underlying26 rfl (by kernel_rfl) LA.out ?_
      simp only [Act.put, List.setIfInBounds_toArray, List.set_cons_succ, List.set_cons_zero]
      refine sL (by kernel_rfl) _ _ (by rfl) _ (by kernel_rfl) HA6.out _ 32 Tryd.underlying26 rfl (by kernel_rfl) LA.out ?_
      simp only [Act.put, List.setIfInBounds_toArray, List.set_cons_succ, List.set_cons_zero]
      refine sB (by kernel_rfl) .neq 26 _ _ _ (by rfl) (.agg (b8 a).toArray) (.agg (b8 a).toArray) (by kernel_rfl) (by kernel_rfl) (.bool false) (NAA.out _) (by kernel_rfl) ?_
      simp only [Act.put, List.setIfInBounds_toArray, List.set_cons_succ, List.set_cons_zero]
      with_reducible refine sV (.bool false) W6 (by kernel_rfl) (by kernel_rfl) ?_
      simp only [Act.put, List.setIfInBounds_toArray, List.set_cons_succ, List.set_cons_zero]
      with_reducible refine sV (.bool false) W6 (by kernel_rfl) (by kernel_rfl) ?_
      simp only [Act.put, List.setIfInBounds_toArray, List.set_cons_succ, List.set_cons_zero]
      with_reducible refine sV (.int .i64 0) W6 (by kernel_rfl) (by kernel_rfl) ?_
      simp only [Act.put, List.setIfInBounds_toArray, List.set_cons_succ, List.set_cons_zero]
      with_reducible refine sV (.bool false) W6 (by kernel_rfl) (by kernel_rfl) ?_
      simp only [Act.put, List.setIfInBounds_toArray, List.set_cons_succ, List.set_cons_zero]
      with_reducible refine sV (.bool false) W6 (by kernel_rfl) (by kernel_rfl) ?_
      simp only [Act.put, List.setIfInBounds_toArray, List.set_cons_succ, List.set_cons_zero]
      with_reducible refine sV (.bool false) W6 (by kernel_rfl) (by kernel_rfl) ?_
      simp only [Act.put, List.setIfInBounds_toArray, List.set_cons_succ, List.set_cons_zero]
      with_reducible refine sV (.int .i64 5) W6 (by kernel_rfl) (by kernel_rfl) ?_
      simp only [Act.put, List.setIfInBounds_toArray, List.set_cons_succ, List.set_cons_zero]
      with_reducible refine sV (.bool false) W6 (by kernel_rfl) (by kernel_rfl) ?_
      simp only [Act.put, List.setIfInBounds_toArray, List.set_cons_succ, List.set_cons_zero]
      with_reducible refine sV (.bool false) W6 (by kernel_rfl) (by kernel_rfl) ?_
      simp only [Act.put, List.setIfInBounds_toArray, List.set_cons_succ, List.set_cons_zero]
      with_reducible refine sS (by kernel_rfl) ?_
      simp only [Act.put, List.setIfInBounds_toArray, List.set_cons_succ, List.set_cons_zero]
      with_reducible refine sS (by kernel_rfl) ?_
      simp only [Act.put, List.setIfInBounds_toArray, List.set_cons_succ, List.set_cons_zero]
      with_reducible refine sS (by kernel_rfl) ?_
      simp only [Act.put, List.setIfInBounds_toArray, List.set_cons_succ, List.set_cons_zero]
      with_reducible refine sS (by kernel_rfl) ?_
      simp only [Act.put, List.setIfInBounds_toArray, List.set_cons_succ, List.set_cons_zero]
      with_reducible refine sV (.bool false) W6 (by kernel_rfl) (by kernel_rfl) ?_
      simp only [Act.put, List.setIfInBounds_toArray, List.set_cons_succ, List.set_cons_zero]
      with_reducible refine sV (.bool false) W6 (by kernel_rfl) (by kernel_rfl) ?_
      simp only [Act.put, List.setIfInBounds_toArray, List.set_cons_succ, List.set_cons_zero]
      with_reducible refine sV (.bool false) W6 (by kernel_rfl) (by kernel_rfl) ?_
      simp only [Act.put, List.setIfInBounds_toArray, List.set_cons_succ, List.set_cons_zero]
      with_reducible refine sV (.int .i64 5) W6 (by kernel_rfl) (by kernel_rfl) ?_
      simp only [Act.put, List.setIfInBounds_toArray, List.set_cons_succ, List.set_cons_zero]
      with_reducible refine sV (.bool true) W6 (by kernel_rfl) (by kernel_rfl) ?_
      simp only [Act.put, List.setIfInBounds_toArray, List.set_cons_succ, List.set_cons_zero]
      with_reducible refine sV (.bool true) W6 (by kernel_rfl) (by kernel_rfl) ?_
      simp only [Act.put, List.setIfInBounds_toArray, List.set_cons_succ, List.set_cons_zero]
      with_reducible refine sV (.int .i64 5) W6 (by kernel_rfl) (by kernel_rfl) ?_
      simp only [Act.put, List.setIfInBounds_toArray, List.set_cons_succ, List.set_cons_zero]
      with_reducible refine sV (.bool false) W6 (by kernel_rfl) (by kernel_rfl) ?_
      simp only [Act.put, List.setIfInBounds_toArray, List.set_cons_succ, List.set_cons_zero]
      with_reducible refine sV (.bool false) W6 (by kernel_rfl) (by kernel_rfl) ?_
      simp only [Act.put, List.setIfInBounds_toArray, List.set_cons_succ, List.set_cons_zero]
      refine sL (by kernel_rfl) _ _ (by rfl) _ (by kernel_rfl) HY6.out _ 32 Tryd.underlying26 rfl (by kernel_rfl) (by rw [b8_len]; rfl) ?_
      simp only [Act.put, List.setIfInBounds_toArray, List.set_cons_succ, List.set_cons_zero]
      with_reducible refine sV (.agg (b8 zH).toArray) W6 (by kernel_rfl) (by kernel_rfl) ?_
      simp only [Act.put, List.setIfInBounds_toArray, List.set_cons_succ, List.set_cons_zero]
      refine sB (by kernel_rfl) .neq 26 _ _ _ (by rfl) (.agg (b8 zH).toArray) (.agg (b8 zH).toArray) (by kernel_rfl) (by kernel_rfl) (.bool false) (NZZ.out _) (by kernel_rfl) ?_
      simp only [Act.put, List.setIfInBounds_toArray, List.set_cons_succ, List.set_cons_zero]
      with_reducible refine sV (.bool false) W6 (by kernel_rfl) (by kernel_rfl) ?_
      simp only [Act.put, List.setIfInBounds_toArray, List.set_cons_succ, List.set_cons_zero]
      with_reducible refine sV (.bool false) W6 (by kernel_rfl) (by kernel_rfl) ?_
      simp only [Act.put, List.setIfInBounds_toArray, List.set_cons_succ, List.set_cons_zero]
      with_reducible refine sV (.bool false) W6 (by kernel_rfl) (by kernel_rfl) ?_
      simp only [Act.put, List.setIfInBounds_toArray, List.set_cons_succ, List.set_cons_zero]
      have HA7 := hide HA6.out
      have HC7 := hide HC6.out
      have HB7 := hide HB6.out
      clear HA6 HC6 HH6 HB6 HY6
      have hgt := gtr_string (hashText a) (hashText b)
      rcases O3.out with ⟨h1, h2, h3, h4⟩ | ⟨h1, h0, h2, h3, h4⟩ | ⟨h1, h0, h2, h3, h4⟩
      · clear hgt
        have CAB' := CAB.out
        have CBA' := CBA.out
        have EAB' := EAB.out
        rw [h2] at CAB'
        rw [h3] at CBA'
        rw [h4] at EAB'
        have C1 := hide CAB'
        have C2 := hide CBA'
        have C3 := hide EAB'
        clear CAB' CBA' EAB' h2 h3 h4
        go_upto_region 14 with fail
        refine wp_region_lit ?_
        with_reducible refine sV (.bool true) W6 (by kernel_rfl) (by kernel_rfl) ?_
        simp only [Act.put, List.setIfInBounds_toArray, List.set_cons_succ, List.set_cons_zero]
        with_reducible refine sV (.bool true) W6 (by kernel_rfl) (by kernel_rfl) ?_
        simp only [Act.put, List.setIfInBounds_toArray, List.set_cons_succ, List.set_cons_zero]
        refine sL (by kernel_rfl) _ _ (by rfl) _ (by kernel_rfl) HA7.out _ 32 Tryd.underlying26 rfl (by kernel_rfl) LA.out ?_
        simp only [Act.put, List.setIfInBounds_toArray, List.set_cons_succ, List.set_cons_zero]
        refine sL (by kernel_rfl) _ _ (by rfl) _ (by kernel_rfl) HC7.out _ 32 Tryd.underlying26 rfl (by kernel_rfl) LB.out ?_
        simp only [Act.put, List.setIfInBounds_toArray, List.set_cons_succ, List.set_cons_zero]
        refine sC (by kernel_rfl) (by kernel_rfl) (C1.out W6) ?_
        intro x1 hx1
        simp only [Act.put, List.setIfInBounds_toArray, List.set_cons_succ, List.set_cons_zero]
        with_reducible refine sV (.int .i64 (-1)) x1 (by kernel_rfl) (by kernel_rfl) ?_
        simp only [Act.put, List.setIfInBounds_toArray, List.set_cons_succ, List.set_cons_zero]
        with_reducible refine sV (.bool true) x1 (by kernel_rfl) (by kernel_rfl) ?_
        simp only [Act.put, List.setIfInBounds_toArray, List.set_cons_succ, List.set_cons_zero]
        with_reducible refine sV (.bool true) x1 (by kernel_rfl) (by kernel_rfl) ?_
        simp only [Act.put, List.setIfInBounds_toArray, List.set_cons_succ, List.set_cons_zero]
        with_reducible refine sV (.bool true) x1 (by kernel_rfl) (by kernel_rfl) ?_
        simp only [Act.put, List.setIfInBounds_toArray, List.set_cons_succ, List.set_cons_zero]
        refine sL (by kernel_rfl) _ _ (by rfl) _ (by kernel_rfl) (HC7.out.below hx1 HC7.out.lt) _ 32 Tryd.underlying26 rfl (by kernel_rfl) LB.out ?_
        simp only [Act.put, List.setIfInBounds_toArray, List.set_cons_succ, List.set_cons_zero]
        refine sL (by kernel_rfl) _ _ (by rfl) _ (by kernel_rfl) (HA7.out.below hx1 HA7.out.lt) _ 32 Tryd.underlying26 rfl (by kernel_rfl) LA.out ?_
        simp only [Act.put, List.setIfInBounds_toArray, List.set_cons_succ, List.set_cons_zero]
        refine sC (by kernel_rfl) (by kernel_rfl) (C2.out x1) ?_
        intro x2 hx2
        simp only [Act.put, List.setIfInBounds_toArray, List.set_cons_succ, List.set_cons_zero]
        with_reducible refine sV (.int .i64 (-1)) x2 (by kernel_rfl) (by kernel_rfl) ?_
        simp only [Act.put, List.setIfInBounds_toArray, List.set_cons_succ, List.set_cons_zero]
        with_reducible refine sV (.int .i64 1) x2 (by kernel_rfl) (by kernel_rfl) ?_
        simp only [Act.put, List.setIfInBounds_toArray, List.set_cons_succ, List.set_cons_zero]
        with_reducible refine sV (.bool true) x2 (by kernel_rfl) (by kernel_rfl) ?_
        simp only [Act.put, List.setIfInBounds_toArray, List.set_cons_succ, List.set_cons_zero]
        with_reducible refine sV (.bool true) x2 (by kernel_rfl) (by kernel_rfl) ?_
        simp only [Act.put, List.setIfInBounds_toArray, List.set_cons_succ, List.set_cons_zero]
        with_reducible refine sV (.bool true) x2 (by kernel_rfl) (by kernel_rfl) ?_
        simp only [Act.put, List.setIfInBounds_toArray, List.set_cons_succ, List.set_cons_zero]
        refine sL (by kernel_rfl) _ _ (by rfl) _ (by kernel_rfl) ((HA7.out.below hx1 HA7.out.lt).below hx2 (HA7.out.below hx1 HA7.out.lt).lt) _ 32 Tryd.underlying26 rfl (by kernel_rfl) LA.out ?_
        simp only [Act.put, List.setIfInBounds_toArray, List.set_cons_succ, List.set_cons_zero]
        refine sL (by kernel_rfl) _ _ (by rfl) _ (by kernel_rfl) ((HC7.out.below hx1 HC7.out.lt).below hx2 (HC7.out.below hx1 HC7.out.lt).lt) _ 32 Tryd.underlying26 rfl (by kernel_rfl) LB.out ?_
        simp only [Act.put, List.setIfInBounds_toArray, List.set_cons_succ, List.set_cons_zero]
        refine sB (by kernel_rfl) .eql 26 _ _ _ (by rfl) (.agg (b8 a).toArray) (.agg (b8 b).toArray) (by kernel_rfl) (by kernel_rfl) (.bool false) (C3.out _) (by kernel_rfl) ?_
        simp only [Act.put, List.setIfInBounds_toArray, List.set_cons_succ, List.set_cons_zero]
        with_reducible refine sV (.int .i64 (-1)) x2 (by kernel_rfl) (by kernel_rfl) ?_
        simp only [Act.put, List.setIfInBounds_toArray, List.set_cons_succ, List.set_cons_zero]
        with_reducible refine sV (.bool false) x2 (by kernel_rfl) (by kernel_rfl) ?_
        simp only [Act.put, List.setIfInBounds_toArray, List.set_cons_succ, List.set_cons_zero]
        with_reducible refine sV (.bool true) x2 (by kernel_rfl) (by kernel_rfl) ?_
        simp only [Act.put, List.setIfInBounds_toArray, List.set_cons_succ, List.set_cons_zero]
        with_reducible refine sV (.bool true) x2 (by kernel_rfl) (by kernel_rfl) ?_
        simp only [Act.put, List.setIfInBounds_toArray, List.set_cons_succ, List.set_cons_zero]
        have HF := hide ((HB7.out.trans (hx1.mono HB7.out.size)).trans (hx2.mono (Below.size (HB7.out.trans (hx1.mono HB7.out.size)))))
        clear hx1 hx2
        go_wp2_with fail
        go_ret
        exact ⟨rfl, HF.out⟩
      · rw [h1, h0] at hgt
        simp only [Bool.not_false, Bool.not_true, Bool.and_false] at hgt
        have CAB' := CAB.out
        have CBA' := CBA.out
        have EAB' := EAB.out
        rw [h2] at CAB'
        rw [h3] at CBA'
        rw [h4] at EAB'
        have C1 := hide CAB'
        have C2 := hide CBA'
        have C3 := hide EAB'
        clear CAB' CBA' EAB' h2 h3 h4
        go_upto_region 14 with fail
        refine wp_region_lit ?_
        with_reducible refine sV (.bool true) W6 (by kernel_rfl) (by kernel_rfl) ?_
        simp only [Act.put, List.setIfInBounds_toArray, List.set_cons_succ, List.set_cons_zero]
        with_reducible refine sV (.bool true) W6 (by kernel_rfl) (by kernel_rfl) ?_
        simp only [Act.put, List.setIfInBounds_toArray, List.set_cons_succ, List.set_cons_zero]
        refine sL (by kernel_rfl) _ _ (by rfl) _ (by kernel_rfl) HA7.out _ 32 Tryd.underlying26 rfl (by kernel_rfl) LA.out ?_
        simp only [Act.put, List.setIfInBounds_toArray, List.set_cons_succ, List.set_cons_zero]
        refine sL (by kernel_rfl) _ _ (by rfl) _ (by kernel_rfl) HC7.out _ 32 Tryd.underlying26 rfl (by kernel_rfl) LB.out ?_
        simp only [Act.put, List.setIfInBounds_toArray, List.set_cons_succ, List.set_cons_zero]
        refine sC (by kernel_rfl) (by kernel_rfl) (C1.out W6) ?_
        intro x1 hx1
        simp only [Act.put, List.setIfInBounds_toArray, List.set_cons_succ, List.set_cons_zero]
        with_reducible refine sV (.int .i64 0) x1 (by kernel_rfl) (by kernel_rfl) ?_
        simp only [Act.put, List.setIfInBounds_toArray, List.set_cons_succ, List.set_cons_zero]
        with_reducible refine sV (.bool true) x1 (by kernel_rfl) (by kernel_rfl) ?_
        simp only [Act.put, List.setIfInBounds_toArray, List.set_cons_succ, List.set_cons_zero]
        with_reducible refine sV (.bool true) x1 (by kernel_rfl) (by kernel_rfl) ?_
        simp only [Act.put, List.setIfInBounds_toArray, List.set_cons_succ, List.set_cons_zero]
        with_reducible refine sV (.bool true) x1 (by kernel_rfl) (by kernel_rfl) ?_
        simp only [Act.put, List.setIfInBounds_toArray, List.set_cons_succ, List.set_cons_zero]
        refine sL (by kernel_rfl) _ _ (by rfl) _ (by kernel_rfl) (HC7.out.below hx1 HC7.out.lt) _ 32 Tryd.underlying26 rfl (by kernel_rfl) LB.out ?_
        simp only [Act.put, List.setIfInBounds_toArray, List.set_cons_succ, List.set_cons_zero]
        refine sL (by kernel_rfl) _ _ (by rfl) _ (by kernel_rfl) (HA7.out.below hx1 HA7.out.lt) _ 32 Tryd.underlying26 rfl (by kernel_rfl) LA.out ?_
        simp only [Act.put, List.setIfInBounds_toArray, List.set_cons_succ, List.set_cons_zero]
        refine sC (by kernel_rfl) (by kernel_rfl) (C2.out x1) ?_
        intro x2 hx2
        simp only [Act.put, List.setIfInBounds_toArray, List.set_cons_succ, List.set_cons_zero]
        with_reducible refine sV (.int .i64 0) x2 (by kernel_rfl) (by kernel_rfl) ?_
        simp only [Act.put, List.setIfInBounds_toArray, List.set_cons_succ, List.set_cons_zero]
        with_reducible refine sV (.int .i64 0) x2 (by kernel_rfl) (by kernel_rfl) ?_
        simp only [Act.put, List.setIfInBounds_toArray, List.set_cons_succ, List.set_cons_zero]
        with_reducible refine sV (.bool true) x2 (by kernel_rfl) (by kernel_rfl) ?_
        simp only [Act.put, List.setIfInBounds_toArray, List.set_cons_succ, List.set_cons_zero]
        with_reducible refine sV (.bool true) x2 (by kernel_rfl) (by kernel_rfl) ?_
        simp only [Act.put, List.setIfInBounds_toArray, List.set_cons_succ, List.set_cons_zero]
        with_reducible refine sV (.bool true) x2 (by kernel_rfl) (by kernel_rfl) ?_
        simp only [Act.put, List.setIfInBounds_toArray, List.set_cons_succ, List.set_cons_zero]
        refine sL (by kernel_rfl) _ _ (by rfl) _ (by kernel_rfl) ((HA7.out.below hx1 HA7.out.lt).below hx2 (HA7.out.below hx1 HA7.out.lt).lt) _ 32 Tryd.underlying26 rfl (by kernel_rfl) LA.out ?_
        simp only [Act.put, List.setIfInBounds_toArray, List.set_cons_succ, List.set_cons_zero]
        refine sL (by kernel_rfl) _ _ (by rfl) _ (by kernel_rfl) ((HC7.out.below hx1 HC7.out.lt).below hx2 (HC7.out.below hx1 HC7.out.lt).lt) _ 32 Tryd.underlying26 rfl (by kernel_rfl) LB.out ?_
        simp only [Act.put, List.setIfInBounds_toArray, List.set_cons_succ, List.set_cons_zero]
        refine sB (by kernel_rfl) .eql 26 _ _ _ (by rfl) (.agg (b8 a).toArray) (.agg (b8 b).toArray) (by kernel_rfl) (by kernel_rfl) (.bool true) (C3.out _) (by kernel_rfl) ?_
        simp only [Act.put, List.setIfInBounds_toArray, List.set_cons_succ, List.set_cons_zero]
        with_reducible refine sV (.int .i64 0) x2 (by kernel_rfl) (by kernel_rfl) ?_
        simp only [Act.put, List.setIfInBounds_toArray, List.set_cons_succ, List.set_cons_zero]
        with_reducible refine sV (.bool true) x2 (by kernel_rfl) (by kernel_rfl) ?_
        simp only [Act.put, List.setIfInBounds_toArray, List.set_cons_succ, List.set_cons_zero]
        with_reducible refine sV (.bool true) x2 (by kernel_rfl) (by kernel_rfl) ?_
        simp only [Act.put, List.setIfInBounds_toArray, List.set_cons_succ, List.set_cons_zero]
        with_reducible refine sV (.bool true) x2 (by kernel_rfl) (by kernel_rfl) ?_
        simp only [Act.put, List.setIfInBounds_toArray, List.set_cons_succ, List.set_cons_zero]
        have HF := hide ((HB7.out.trans (hx1.mono HB7.out.size)).trans (hx2.mono (Below.size (HB7.out.trans (hx1.mono HB7.out.size)))))
        clear hx1 hx2
        go_wp2_with fail
        go_ret
        exact ⟨rfl, HF.out⟩
      · rw [h1, h0] at hgt
        simp only [Bool.not_false, Bool.and_true] at hgt
        have CAB' := CAB.out
        have CBA' := CBA.out
        have EAB' := EAB.out
        rw [h2] at CAB'
        rw [h3] at CBA'
        rw [h4] at EAB'
        have C1 := hide CAB'
        have C2 := hide CBA'
        have C3 := hide EAB'
        clear CAB' CBA' EAB' h2 h3 h4
        go_upto_region 14 with fail
        refine wp_region_lit ?_
        with_reducible refine sV (.bool true) W6 (by kernel_rfl) (by kernel_rfl) ?_
        simp only [Act.put, List.setIfInBounds_toArray, List.set_cons_succ, List.set_cons_zero]
        with_reducible refine sV (.bool true) W6 (by kernel_rfl) (by kernel_rfl) ?_
        simp only [Act.put, List.setIfInBounds_toArray, List.set_cons_succ, List.set_cons_zero]
        refine sL (by kernel_rfl) _ _ (by rfl) _ (by kernel_rfl) HA7.out _ 32 Tryd.underlying26 rfl (by kernel_rfl) LA.out ?_
        simp only [Act.put, List.setIfInBounds_toArray, List.set_cons_succ, List.set_cons_zero]
        refine sL (by kernel_rfl) _ _ (by rfl) _ (by kernel_rfl) HC7.out _ 32 Tryd.underlying26 rfl (by kernel_rfl) LB.out ?_
        simp only [Act.put, List.setIfInBounds_toArray, List.set_cons_succ, List.set_cons_zero]
        refine sC (by kernel_rfl) (by kernel_rfl) (C1.out W6) ?_
        intro x1 hx1
        simp only [Act.put, List.setIfInBounds_toArray, List.set_cons_succ, List.set_cons_zero]
        with_reducible refine sV (.int .i64 1) x1 (by kernel_rfl) (by kernel_rfl) ?_
        simp only [Act.put, List.setIfInBounds_toArray, List.set_cons_succ, List.set_cons_zero]
        with_reducible refine sV (.bool true) x1 (by kernel_rfl) (by kernel_rfl) ?_
        simp only [Act.put, List.setIfInBounds_toArray, List.set_cons_succ, List.set_cons_zero]
        with_reducible refine sV (.bool true) x1 (by kernel_rfl) (by kernel_rfl) ?_
        simp only [Act.put, List.setIfInBounds_toArray, List.set_cons_succ, List.set_cons_zero]
        with_reducible refine sV (.bool true) x1 (by kernel_rfl) (by kernel_rfl) ?_
        simp only [Act.put, List.setIfInBounds_toArray, List.set_cons_succ, List.set_cons_zero]
        refine sL (by kernel_rfl) _ _ (by rfl) _ (by kernel_rfl) (HC7.out.below hx1 HC7.out.lt) _ 32 Tryd.underlying26 rfl (by kernel_rfl) LB.out ?_
        simp only [Act.put, List.setIfInBounds_toArray, List.set_cons_succ, List.set_cons_zero]
        refine sL (by kernel_rfl) _ _ (by rfl) _ (by kernel_rfl) (HA7.out.below hx1 HA7.out.lt) _ 32 Tryd.underlying26 rfl (by kernel_rfl) LA.out ?_
        simp only [Act.put, List.setIfInBounds_toArray, List.set_cons_succ, List.set_cons_zero]
        refine sC (by kernel_rfl) (by kernel_rfl) (C2.out x1) ?_
        intro x2 hx2
        simp only [Act.put, List.setIfInBounds_toArray, List.set_cons_succ, List.set_cons_zero]
        with_reducible refine sV (.int .i64 1) x2 (by kernel_rfl) (by kernel_rfl) ?_
        simp only [Act.put, List.setIfInBounds_toArray, List.set_cons_succ, List.set_cons_zero]
        with_reducible refine sV (.int .i64 (-1)) x2 (by kernel_rfl) (by kernel_rfl) ?_
        simp only [Act.put, List.setIfInBounds_toArray, List.set_cons_succ, List.set_cons_zero]
        with_reducible refine sV (.bool true) x2 (by kernel_rfl) (by kernel_rfl) ?_
        simp only [Act.put, List.setIfInBounds_toArray, List.set_cons_succ, List.set_cons_zero]
        with_reducible refine sV (.bool true) x2 (by kernel_rfl) (by kernel_rfl) ?_
        simp only [Act.put, List.setIfInBounds_toArray, List.set_cons_succ, List.set_cons_zero]
        with_reducible refine sV (.bool true) x2 (by kernel_rfl) (by kernel_rfl) ?_
        simp only [Act.put, List.setIfInBounds_toArray, List.set_cons_succ, List.set_cons_zero]
        refine sL (by kernel_rfl) _ _ (by rfl) _ (by kernel_rfl) ((HA7.out.below hx1 HA7.out.lt).below hx2 (HA7.out.below hx1 HA7.out.lt).lt) _ 32 Tryd.underlying26 rfl (by kernel_rfl) LA.out ?_
        simp only [Act.put, List.setIfInBounds_toArray, List.set_cons_succ, List.set_cons_zero]
        refine sL (by kernel_rfl) _ _ (by rfl) _ (by kernel_rfl) ((HC7.out.below hx1 HC7.out.lt).below hx2 (HC7.out.below hx1 HC7.out.lt).lt) _ 32 Tryd.underlying26 rfl (by kernel_rfl) LB.out ?_
        simp only [Act.put, List.setIfInBounds_toArray, List.set_cons_succ, List.set_cons_zero]
        refine sB (by kernel_rfl) .eql 26 _ _ _ (by rfl) (.agg (b8 a).toArray) (.agg (b8 b).toArray) (by kernel_rfl) (by kernel_rfl) (.bool false) (C3.out _) (by kernel_rfl) ?_
        simp only [Act.put, List.setIfInBounds_toArray, List.set_cons_succ, List.set_cons_zero]
        with_reducible refine sV (.int .i64 1) x2 (by kernel_rfl) (by kernel_rfl) ?_
        simp only [Act.put, List.setIfInBounds_toArray, List.set_cons_succ, List.set_cons_zero]
        with_reducible refine sV (.bool false) x2 (by kernel_rfl) (by kernel_rfl) ?_
        simp only [Act.put, List.setIfInBounds_toArray, List.set_cons_succ, List.set_cons_zero]
        with_reducible refine sV (.bool true) x2 (by kernel_rfl) (by kernel_rfl) ?_
        simp only [Act.put, List.setIfInBounds_toArray, List.set_cons_succ, List.set_cons_zero]
        with_reducible refine sV (.bool true) x2 (by kernel_rfl) (by kernel_rfl) ?_
        simp only [Act.put, List.setIfInBounds_toArray, List.set_cons_succ, List.set_cons_zero]
        have HF := hide ((HB7.out.trans (hx1.mono HB7.out.size)).trans (hx2.mono (Below.size (HB7.out.trans (hx1.mono HB7.out.size)))))
        clear hx1 hx2
        go_wp2_with fail
        go_ret
        exact ⟨rfl, HF.out⟩
  · have t0 : (200 : Int) < (s.size : Int) := by omega
    go_wp2_with fail
    go_ret
    exact ⟨rfl, HB1.out⟩
end BlkY
end Go.Proofs.YtjgimgjnbfnmgaaDoor
