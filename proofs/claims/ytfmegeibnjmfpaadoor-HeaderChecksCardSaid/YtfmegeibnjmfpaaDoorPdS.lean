/-
  HdK, HdN, in one text.
-/
import Derived.Test.YtfmegeibnjmfpaaDoorPdQ
import Derived.Test.YtfmegeibnjmfpaaDoorPdM
import Derived.Test.YtfmegeibnjmfpaaDoorPdL
import Derived.Test.YtfmegeibnjmfpaaDoorPdC
import Derived.Deep.RegionHeld3
namespace Go.Proofs.YtfmegeibnjmfpaaDoor
namespace HdK
open Go.RowKit
open BlkM WirM WirS HdA HdB HdC HdE HdF HdG HdP HdQ
open WirD (numB)
open WirE (tb NewB)
open WirX (Thg Bag own bag_own)
open WirAA (box bag_box)
open WirAB (turn3 sCx)
open WirRT (rng)

/-- The chapter's header. -/
def hd1 : Hd := ⟨⟨#[97]⟩, 1, 2, WirN.zz 128, zz_len 128⟩
theorem hd1_ok : HOk hd1 := ⟨by decide +kernel, by decide, by decide⟩
theorem form_rng {t : Hd} (h : HOk t) (hr : rng t.hs) : rng (hform t) := by
  intro x hx
  simp only [hform, hpre, List.mem_append] at hx
  rcases hx with ((hx | hx) | hx) | hx
  · rcases hx with hx | hx
    · exact WirBF.numB_rng _ (by have := h.size; omega) x hx
    · unfold tb at hx
      obtain ⟨b, _, rfl⟩ := List.mem_map.1 hx
      have := b.toNat_lt
      omega
  · exact WirBF.numB_rng _ (by have := h.ht; omega) x hx
  · exact WirBF.numB_rng _ (by have := h.tm; omega) x hx
  · exact hr x hx
theorem hd1_rng : rng (hform hd1) := form_rng hd1_ok (by intro x hx; simp [hd1, WirN.zz] at hx; omega)
theorem hd1_len : (hform hd1).length = 135 := by decide +kernel
set_option maxRecDepth 10000 in
theorem one_any (w : World) : Calls Tryd.prog 50 #[] w fun e w' => e = .returned (.agg hd1.cells.toArray) ∧ Below w.heap.size w w' := by
  obtain ⟨A, eA⟩ : ∃ A, w.heap.size = A := ⟨_, rfl⟩
  have hb := bag_box (w0 := w) (T := HT) (cs := hd0.cells) (X := A) (Bag.nil (Below.refl _ _)) eA.symm (w' := w.alloc (.cells hd0.cells.toArray 58)) (by rw [← eA]; exact At.new _ _ _) (Below.alloc (Below.refl _ _) (Nat.le_refl _) _)
  go_enter Tryd.func50, Tryd.ntmps50
  go_upto_region 0 with fail
  refine wp_region_lit ?_
  refine sV (.pointer (some ⟨w.heap.size, 0, none⟩)) (w.alloc (.cells hd0.cells.toArray 58)) (by kernel_rfl) (al_hd _ _ (by rfl) w) ?_
  simp only [Act.put, List.setIfInBounds_toArray, List.set_cons_zero]
  rw [eA]
  clear eA
  generalize World.alloc w _ = u at *
  go_upto_region 1 with fail
  refine wp_region_lit ?_
  refine sV (.agg hd1.cells.toArray) (u) (by kernel_rfl) (by kernel_rfl) ?_
  simp only [Act.put, List.setIfInBounds_toArray, List.set_cons_succ, List.set_cons_zero]
  refine stepStore (by rfl) _ _ _ (by rfl) A hd1.cells (by kernel_rfl) (by kernel_rfl) hb.head 131 (by kernel_rfl) hd0.len hd1.len (one_cells _) ?_
  simp only [Act.put]
  have H := WirS.hide (bag_row hb hd1.cells)
  clear hb
  go_wp2_with fail
  exact bodyPost_ret (retRow H.out.head Tryd.results50 _ (by rfl) _ 131 Tryd.underlying58 rfl (by kernel_rfl) hd1.len) rfl ⟨rfl, H.out.low⟩
def repA (k : Nat) : ByteArray := ⟨(List.replicate k 97).toArray⟩
theorem repA_size (k : Nat) : (repA k).size = k := by simp [repA, ByteArray.size]
theorem repA_next (k : Nat) : repA k ++ (⟨#[97]⟩ : ByteArray) = repA (k + 1) := by
  unfold repA
  apply ByteArray.ext
  apply Array.ext'
  simp [List.replicate_succ']
set_option maxHeartbeats 400000 in
theorem times_any (w : World) (n : Nat) (hn : n ≤ 100) : Calls Tryd.prog 64 #[.string ⟨#[97]⟩, .int .i64 (n : Int)] w fun e w' => e = .returned (.string (repA n)) ∧ w = w' := by
  go_enter Tryd.func64, Tryd.ntmps64
  go_wp2_with fail
  go_loop [5, 6] (fun o i => ∃ k : Nat, k ≤ n ∧ i = .int .i64 (k : Int) ∧ o = .string (repA k)) (fun _ i => n - (intOf i).toNat)
  case atStart => exact ⟨0, by omega, rfl, rfl⟩
  case round =>
    obtain ⟨k, hk, rfl, rfl⟩ := hrel
    by_cases hlt : k < n
    · obtain ⟨o, ho⟩ : ∃ o, o = repA k := ⟨_, rfl⟩
      have hs : o.size ≤ 100 := by rw [ho, repA_size]; omega
      have hn' : o ++ (⟨#[97]⟩ : ByteArray) = repA (k + 1) := by rw [ho, repA_next]
      have HN := WirS.hide hn'
      have hkl : (k : Int) < (n : Int) := by omega
      rw [← ho]
      clear hn' ho
      go_wp2_with fail
      go_round
      case rel => exact ⟨k + 1, by omega, by go_num, by rw [HN.out]⟩
      case measure => simp [intOf]; omega
    · obtain rfl : k = n := by omega
      go_wp2
      go_ret
      exact ⟨rfl, rfl⟩
/-- Decode of what is known. -/
theorem dec_eq {U : World} {b : Option Addr} {n c : Nat} {bs : List Int} {D : (Int × Int) × Hd} (h : hdec bs = D) (hb : BIn U (.slice b n c) bs) (hr : rng bs) (hn : n ≤ 1099511627776) :
    Calls Tryd.prog 51 #[.slice b n c] U fun e w' => e = .returned (.tuple #[.agg D.2.cells.toArray, .agg #[.int .i64 D.1.1, .int .i64 D.1.2]]) ∧ Below U.heap.size U w' := by
  have := decode_any U b n c bs hb hr hn
  rw [h] at this
  exact this
/-- A call as a step of a drawn region. -/
theorem stepCallH {P : Program} {o : Oper} {a : Act} {w : World} {K : Act → World → Prop} {Q : Exit → Act → World → Prop} {f : FuncId} {args : Array Value} {v : Value} {R : World → Prop} (hrun : (execOp a.eval o).run P w = .ok (.enter f args) w)
    (hc : Calls P f args w fun e w' => e = .returned v ∧ R w') (h : ∀ w', R w' → K (a.put o.dst v) w') : o.wp P a w K Q := by
  unfold Oper.wp
  rw [hrun, Oper.upon_enter]
  exact hc.mono (by rintro e w' ⟨rfl, hr⟩; exact h w' hr)
/-- Two values compared, as an operation. -/
theorem run_eq {P : Program} {a : Operand → Value} {o : Oper} {op : BinOp} {t t2 : TypeId} {x y : Operand} {vx vy v : Value} {w : World} (ho : o.op = .binOp op t x y t2) (hx : a x = vx) (hy : a y = vy) (hr : (binOp op t vx vy).run P w = .ok v w) (hg : (eqGuard op t x y vx vy).run P w = .ok () w) : (execOp a o).run P w = .ok (.value v) w := by
  unfold execOp
  simp only [ho, hx, hy, Sem.run_bind, hg, Result.andThen_ok, hr, Sem.run_pure]
theorem rangeAt0 {w : World} {X : Nat} {T : TypeId} {cs : List Value} (h : At w X T cs) : w.rangeAt X 0 cs := fun j v hj => by
  rw [Nat.zero_add, h.cell]
  exact hj
set_option maxRecDepth 20000 in
set_option maxHeartbeats 8000000 in
theorem awake_any (w : World) : Calls Tryd.prog 30 #[] w fun e w' => e = .returned (.bool true) ∧ Below w.heap.size w w' := by
  have HO := WirS.hide (fun U => one_any U)
  have HE := WirS.hide (fun U => encode_ok U hd1 hd1_ok)
  have HN1 := WirS.hide (fun U => show Calls Tryd.prog 38 #[.string ⟨#[97, 45, 49]⟩] U (fun e w' => e = .returned (.bool true) ∧ Below U.heap.size U w') from by
    have := name_any U ⟨#[97, 45, 49]⟩ (by decide)
    rwa [show nameB ⟨#[97, 45, 49]⟩ = true by decide +kernel] at this)
  have HN2 := WirS.hide (fun U => show Calls Tryd.prog 38 #[.string ⟨#[65]⟩] U (fun e w' => e = .returned (.bool false) ∧ Below U.heap.size U w') from by
    have := name_any U ⟨#[65]⟩ (by decide)
    rwa [show nameB ⟨#[65]⟩ = false by decide +kernel] at this)
  have H0 := WirS.hide (Bag.nil (Below.refl w.heap.size w))
  go_enter Tryd.func30, Tryd.ntmps30
  go_upto_region 1 with fail
  refine wp_region_lit ?_
  refine sC (R := fun w' => Below w.heap.size w w') (by kernel_rfl) (by kernel_rfl) (HO.out w) ?_
  rintro u1 hb
  simp only [Act.put, List.setIfInBounds_toArray, List.set_cons_succ, List.set_cons_zero]
  have H1 := WirS.hide (H0.out.more hb)
  clear hb H0
  refine sCx (by kernel_rfl) (by kernel_rfl) (HE.out u1) ?_
  rintro e u2 ⟨va, vn, vc, rfl, ho, hnw, hb⟩
  refine ⟨_, rfl, ?_⟩
  simp only [Act.put, List.setIfInBounds_toArray, List.set_cons_succ, List.set_cons_zero]
  have evn : vn = (hform hd1).length := by obtain ⟨_, _, e, _⟩ := ho.bin; cases e; rfl
  rw [hd1_len] at evn
  subst evn
  have H2 := WirS.hide (bag_own H1.out ho hnw hb)
  clear ho hnw hb H1
  go_upto_region 2 with fail
  refine wp_region_lit ?_
  refine sV (.slice va 135 vc) (u2) (by kernel_rfl) (by kernel_rfl) ?_
  simp only [Act.put, List.setIfInBounds_toArray, List.set_cons_succ, List.set_cons_zero]
  refine sC (R := fun w' => Below u2.heap.size u2 w') (v := .tuple #[.agg (hd1).cells.toArray, .agg #[.int .i64 0, .int .i64 0]]) (by kernel_rfl) (by kernel_rfl) (dec_eq (D := ((0, 0), hd1)) (by have := dec_whole hd1_ok []; rwa [List.append_nil, if_pos rfl] at this) H2.out.head.bin hd1_rng (by decide)) ?_
  rintro q3 hb
  simp only [Act.put, List.setIfInBounds_toArray, List.set_cons_succ, List.set_cons_zero]
  have HB3 := WirS.hide (H2.out.more hb)
  clear hb
  refine sV (.tuple #[.agg (hd1).cells.toArray, .agg #[.int .i64 0, .int .i64 0]]) (q3) (by kernel_rfl) (by kernel_rfl) ?_
  simp only [Act.put, List.setIfInBounds_toArray, List.set_cons_succ, List.set_cons_zero]
  refine sV (.agg (hd1).cells.toArray) (q3) (by kernel_rfl) (by kernel_rfl) ?_
  simp only [Act.put, List.setIfInBounds_toArray, List.set_cons_succ, List.set_cons_zero]
  refine sV (.agg #[.int .i64 0, .int .i64 0]) (q3) (by kernel_rfl) (by kernel_rfl) ?_
  simp only [Act.put, List.setIfInBounds_toArray, List.set_cons_succ, List.set_cons_zero]
  refine sV (.pointer (some ⟨q3.heap.size, 0, none⟩)) (q3.alloc (.cells hd0.cells.toArray 58)) (by kernel_rfl) (al_hd _ _ (by rfl) q3) ?_
  simp only [Act.put, List.setIfInBounds_toArray, List.set_cons_succ, List.set_cons_zero]
  obtain ⟨A3, eA⟩ : ∃ A, q3.heap.size = A := ⟨_, rfl⟩
  have hbA := bag_box (T := HT) (cs := hd0.cells) (X := A3) HB3.out eA.symm (w' := q3.alloc (.cells hd0.cells.toArray 58)) (by rw [← eA]; exact At.new _ _ _) (Below.alloc (Below.refl _ _) (Nat.le_refl _) _)
  rw [eA]
  clear eA
  generalize World.alloc q3 _ = x3 at *
  refine sV (.pointer (some ⟨x3.heap.size, 0, none⟩)) (x3.alloc (.cells (f2 0 0).toArray 76)) (by kernel_rfl) (by kernel_rfl) ?_
  simp only [Act.put, List.setIfInBounds_toArray, List.set_cons_succ, List.set_cons_zero]
  obtain ⟨F3, eF⟩ : ∃ A, x3.heap.size = A := ⟨_, rfl⟩
  have hbF := bag_box (T := FT) (cs := f2 0 0) (X := F3) hbA eF.symm (w' := x3.alloc (.cells (f2 0 0).toArray 76)) (by rw [← eF]; exact At.new _ _ _) (Below.alloc (Below.refl _ _) (Nat.le_refl _) _)
  rw [eF]
  clear eF hbA HB3
  generalize World.alloc x3 _ = z3 at *
  refine stepStore (by rfl) _ _ _ (by rfl) A3 (hd1).cells (by kernel_rfl) (by kernel_rfl) hbF.swap.head 131 (by kernel_rfl) hd0.len (hd1).len (one_cells _) ?_
  simp only [Act.put]
  have hbG := (bag_row hbF.swap (hd1).cells).swap
  refine stepStore (by rfl) _ _ _ (by rfl) F3 (f2 0 0) (by kernel_rfl) (by kernel_rfl) hbG.head 2 (by kernel_rfl) rfl rfl (by kernel_rfl) ?_
  simp only [Act.put]
  have H3 := WirS.hide (bag_row hbG (f2 0 0))
  clear hbF hbG
  generalize World.setRow z3 A3 _ = t3 at *
  generalize World.setRow t3 F3 _ = y3 at *
  have d0 : y3.cell? ⟨F3, 0, none⟩ = some (.int .i64 0) := H3.out.head.cell 0
  have d1 : y3.cell? ⟨F3, 1, none⟩ = some (.int .i64 0) := H3.out.head.cell 1
  have r0 : y3.rangeAt A3 0 hd1.cells := rangeAt0 H3.out.swap.head
  have hu := Tryd.underlying58
  have hi : (Tryd.prog.info? 58).map (·.size) = some hd1.cells.length := by rw [hd1.len]; kernel_rfl
  have hlen := hd1.len
  have hq := fun W => heq_self hd1 W
  have hgd : ∀ W, (eqGuard .eql 58 (.tmp 28) (.tmp 29) (.agg hd1.cells.toArray) (.agg hd1.cells.toArray)).run Tryd.prog W = .ok () W := fun W => by kernel_rfl
  have hf := fun W => WirX.fault_eq 0 0 0 0 W
  simp only [beq_self_eq_true, Bool.and_self] at hf
  clear H2 HE
  go_upto_region 3 with fail
  have H4 : Hid (Bag w y3.drew [box FT F3 (f2 0 0), box HT A3 hd1.cells, own (.slice va 135 vc) (hform hd1)]) := WirS.hide (H3.out.more (below_drewN (Below.refl _ _) 1))
  clear H3
  refine wp_region_noPanic ?_
  refine wp_region_held_drew (S := fun w' => w'.cell? ⟨F3, 0, none⟩ = some (.int .i64 0) ∧ w'.cell? ⟨F3, 1, none⟩ = some (.int .i64 0) ∧ w'.rangeAt A3 0 hd1.cells) (by kernel_rfl) ⟨d0, d1, r0⟩ (fun hHeld => ?_)
  generalize World.drew y3 = y4 at *
  refine' wpAnyH_take (i := 0) (oi := _) (v := _) rfl (by kernel_rfl) (by kernel_rfl) (by kernel_rfl) (fun _ _ _ h => h) (Or.inl ⟨by kernel_rfl, ?hy0⟩) (by assumption) ?rest0
  case hy0 =>
    intro w hSw
    try dsimp only at hSw
    go_simp
    try with_reducible rfl
  case rest0 =>
  try simp only [List.getElem_toArray, List.getElem_cons_zero, Act.put, List.setIfInBounds_toArray, List.set_cons_zero, List.set_cons_succ]
  refine' wpAnyH_take (i := 1) (oi := _) (v := _) rfl (by kernel_rfl) (by kernel_rfl) (by kernel_rfl) (fun _ _ _ h => h) (Or.inl ⟨by kernel_rfl, ?hy1⟩) (by assumption) ?rest1
  case hy1 =>
    intro w hSw
    try dsimp only at hSw
    go_simp
    try with_reducible rfl
  case rest1 =>
  try simp only [List.getElem_toArray, List.getElem_cons_succ, List.getElem_cons_zero, Act.put, List.setIfInBounds_toArray, List.set_cons_zero, List.set_cons_succ]
  refine' wpAnyH_take (i := 2) (oi := _) (v := _) rfl (by kernel_rfl) (by kernel_rfl) (by kernel_rfl) (fun _ _ _ h => h) (Or.inl ⟨by kernel_rfl, ?hy2⟩) (by assumption) ?rest2
  case hy2 =>
    intro w hSw
    try dsimp only at hSw
    go_simp
    try with_reducible rfl
  case rest2 =>
  try simp only [List.getElem_toArray, List.getElem_cons_succ, List.getElem_cons_zero, Act.put, List.setIfInBounds_toArray, List.set_cons_zero, List.set_cons_succ]
  refine' wpAnyH_take (i := 3) (oi := _) (v := _) rfl (by kernel_rfl) (by kernel_rfl) (by kernel_rfl) (fun _ _ _ h => h) (Or.inl ⟨by kernel_rfl, ?hy3⟩) (by assumption) ?rest3
  case hy3 =>
    intro w hSw
    try dsimp only at hSw
    go_simp
    try with_reducible rfl
  case rest3 =>
  try simp only [List.getElem_toArray, List.getElem_cons_succ, List.getElem_cons_zero, Act.put, List.setIfInBounds_toArray, List.set_cons_zero, List.set_cons_succ]
  refine' wpAnyH_take (i := 4) (oi := _) (v := _) rfl (by kernel_rfl) (by kernel_rfl) (by kernel_rfl) (fun _ _ _ h => h) (Or.inl ⟨by kernel_rfl, ?hy4⟩) (by assumption) ?rest4
  case hy4 =>
    intro w hSw
    try dsimp only at hSw
    go_simp
    try with_reducible rfl
  case rest4 =>
  try simp only [List.getElem_toArray, List.getElem_cons_succ, List.getElem_cons_zero, Act.put, List.setIfInBounds_toArray, List.set_cons_zero, List.set_cons_succ]
  refine' wpAnyH_take (i := 5) (oi := _) (v := _) rfl (by kernel_rfl) (by kernel_rfl) (by kernel_rfl) (fun _ _ _ h => h) (Or.inl ⟨by kernel_rfl, ?hy5⟩) (by assumption) ?rest5
  case hy5 =>
    intro w hSw
    try dsimp only at hSw
    go_simp
    try with_reducible rfl
  case rest5 =>
  try simp only [List.getElem_toArray, List.getElem_cons_succ, List.getElem_cons_zero, Act.put, List.setIfInBounds_toArray, List.set_cons_zero, List.set_cons_succ]
  refine' wpAnyH_take (i := 6) (oi := _) (v := _) rfl (by kernel_rfl) (by kernel_rfl) (by kernel_rfl) (fun _ _ _ h => h) (Or.inl ⟨by kernel_rfl, ?hy6⟩) (by assumption) ?rest6
  case hy6 =>
    intro w hSw
    try dsimp only at hSw
    go_simp
    try with_reducible rfl
  case rest6 =>
  try simp only [List.getElem_toArray, List.getElem_cons_succ, List.getElem_cons_zero, Act.put, List.setIfInBounds_toArray, List.set_cons_zero, List.set_cons_succ]
  refine' wpAnyH_take (i := 7) (oi := _) (v := _) rfl (by kernel_rfl) (by kernel_rfl) (by kernel_rfl) (fun _ _ _ h => h) (Or.inl ⟨by kernel_rfl, ?hy7⟩) (by assumption) ?rest7
  case hy7 =>
    intro w hSw
    try dsimp only at hSw
    go_simp
    try with_reducible rfl
  case rest7 =>
  try simp only [List.getElem_toArray, List.getElem_cons_succ, List.getElem_cons_zero, Act.put, List.setIfInBounds_toArray, List.set_cons_zero, List.set_cons_succ]
  refine' wpAnyH_take (i := 8) (oi := _) (v := _) rfl (by kernel_rfl) (by kernel_rfl) (by kernel_rfl) (fun _ _ _ h => h) (Or.inl ⟨by kernel_rfl, ?hy8⟩) (by assumption) ?rest8
  case hy8 =>
    intro w hSw
    try dsimp only at hSw
    go_simp
    try with_reducible rfl
  case rest8 =>
  try simp only [List.getElem_toArray, List.getElem_cons_succ, List.getElem_cons_zero, Act.put, List.setIfInBounds_toArray, List.set_cons_zero, List.set_cons_succ]
  refine' wpAnyH_take (i := 9) (oi := _) (v := _) rfl (by kernel_rfl) (by kernel_rfl) (by kernel_rfl) (fun _ _ _ h => h) (Or.inl ⟨by kernel_rfl, ?hy9⟩) (by assumption) ?rest9
  case hy9 =>
    intro w hSw
    try dsimp only at hSw
    go_simp
    try with_reducible rfl
  case rest9 =>
  try simp only [List.getElem_toArray, List.getElem_cons_succ, List.getElem_cons_zero, Act.put, List.setIfInBounds_toArray, List.set_cons_zero, List.set_cons_succ]
  refine' wpAnyH_take (i := 10) (oi := _) (v := _) rfl (by kernel_rfl) (by kernel_rfl) (by kernel_rfl) (fun _ _ _ h => h) (Or.inl ⟨by kernel_rfl, ?hy10⟩) (by assumption) ?rest10
  case hy10 =>
    intro w hSw
    try dsimp only at hSw
    go_simp
    try with_reducible rfl
  case rest10 =>
  try simp only [List.getElem_toArray, List.getElem_cons_succ, List.getElem_cons_zero, Act.put, List.setIfInBounds_toArray, List.set_cons_zero, List.set_cons_succ]
  refine' wpAnyH_take (i := 11) (oi := _) (v := _) rfl (by kernel_rfl) (by kernel_rfl) (by kernel_rfl) (fun _ _ _ h => h) (Or.inl ⟨by kernel_rfl, ?hy11⟩) (by assumption) ?rest11
  case hy11 =>
    intro w hSw
    try dsimp only at hSw
    go_simp
    try with_reducible rfl
  case rest11 =>
  try simp only [List.getElem_toArray, List.getElem_cons_succ, List.getElem_cons_zero, Act.put, List.setIfInBounds_toArray, List.set_cons_zero, List.set_cons_succ]
  refine' wpAnyH_take (i := 12) (oi := _) (v := _) rfl (by kernel_rfl) (by kernel_rfl) (by kernel_rfl) (fun _ _ _ h => h) (Or.inl ⟨by kernel_rfl, ?hy12⟩) (by assumption) ?rest12
  case hy12 =>
    intro w hSw
    try dsimp only at hSw
    go_simp
    try with_reducible rfl
  case rest12 =>
  try simp only [List.getElem_toArray, List.getElem_cons_succ, List.getElem_cons_zero, Act.put, List.setIfInBounds_toArray, List.set_cons_zero, List.set_cons_succ]
  refine' wpAnyH_take (i := 13) (oi := _) (v := .agg (hd1.cells).toArray) rfl (by kernel_rfl) (by kernel_rfl) (by kernel_rfl) (fun _ _ _ h => h) (yieldsIf_load_mid (by kernel_rfl) 58 (.tmp 3) (by kernel_rfl) A3 0 (by kernel_rfl) (hd1.cells) _ (fun _ h => h.2.2) Tryd.underlying58 (by kernel_rfl) (by rw [hd1.len]; kernel_rfl)) (by assumption) ?rest13
  case rest13 =>
  try simp only [List.getElem_toArray, List.getElem_cons_succ, List.getElem_cons_zero, Act.put, List.setIfInBounds_toArray, List.set_cons_zero, List.set_cons_succ]
  refine wpAnyH_ready (rs := [14]) (by kernel_rfl) (by simp) ?_
  refine AllReadyH.cons rfl (fun K hK => ?_) AllReadyH.nil
  rw [if_pos (by kernel_rfl)]
  refine stepCallH (v := .agg hd1.cells.toArray) (R := fun w' => Bag w w' [box FT F3 (f2 0 0), box HT A3 hd1.cells, own (.slice va 135 vc) (hform hd1)]) (by kernel_rfl) ((HO.out y4).mono fun e w' ⟨h1, h2⟩ => ⟨h1, H4.out.more h2⟩) ?_
  rintro y5 hb
  try simp only [List.getElem_toArray, List.getElem_cons_succ, List.getElem_cons_zero, Act.put, List.setIfInBounds_toArray, List.set_cons_zero, List.set_cons_succ]
  have H5 := WirS.hide hb
  clear hb H4
  refine hK.out _ _ ⟨H5.out.head.cell 0, H5.out.head.cell 1, rangeAt0 H5.out.swap.head⟩ (fun hHeld => ?_)
  clear hK K
  refine' wpAnyH_take (i := 15) (oi := _) (v := .bool true) rfl (by kernel_rfl) (by kernel_rfl) (by kernel_rfl) (fun _ _ _ h => h) (Or.inl ⟨by kernel_rfl, ?hy15⟩) (by assumption) ?rest15
  case hy15 =>
    intro W _
    exact run_eq (op := .eql) (t := 58) (t2 := 58) (x := .tmp 28) (y := .tmp 29) (vx := .agg hd1.cells.toArray) (vy := .agg hd1.cells.toArray) (by kernel_rfl) (by kernel_rfl) (by kernel_rfl) (hq W) (by kernel_rfl)
  case rest15 =>
  try simp only [List.getElem_toArray, List.getElem_cons_succ, List.getElem_cons_zero, Act.put, List.setIfInBounds_toArray, List.set_cons_zero, List.set_cons_succ]
  refine' wpAnyH_take (i := 16) (oi := _) (v := _) rfl (by kernel_rfl) (by kernel_rfl) (by kernel_rfl) (fun _ _ _ h => h) (Or.inl ⟨by kernel_rfl, ?hy16⟩) (by assumption) ?rest16
  case hy16 =>
    intro w hSw
    try dsimp only at hSw
    go_simp
    try with_reducible rfl
  case rest16 =>
  try simp only [List.getElem_toArray, List.getElem_cons_succ, List.getElem_cons_zero, Act.put, List.setIfInBounds_toArray, List.set_cons_zero, List.set_cons_succ]
  refine' wpAnyH_take (i := 17) (oi := _) (v := _) rfl (by kernel_rfl) (by kernel_rfl) (by kernel_rfl) (fun _ _ _ h => h) (Or.inl ⟨by kernel_rfl, ?hy17⟩) (by assumption) ?rest17
  case hy17 =>
    intro w hSw
    try dsimp only at hSw
    go_simp
    try with_reducible rfl
  case rest17 =>
  try simp only [List.getElem_toArray, List.getElem_cons_succ, List.getElem_cons_zero, Act.put, List.setIfInBounds_toArray, List.set_cons_zero, List.set_cons_succ]
  refine wpAnyH_ready (rs := [18]) (by kernel_rfl) (by simp) ?_
  refine AllReadyH.cons rfl (fun K hK => ?_) AllReadyH.nil
  rw [if_pos (by kernel_rfl)]
  refine stepCallH (v := .bool true) (R := fun w' => Bag w w' [box FT F3 (f2 0 0), box HT A3 hd1.cells, own (.slice va 135 vc) (hform hd1)]) (by kernel_rfl) ((HN1.out y5).mono fun e w' ⟨h1, h2⟩ => ⟨h1, H5.out.more h2⟩) ?_
  rintro y6 hb
  try simp only [List.getElem_toArray, List.getElem_cons_succ, List.getElem_cons_zero, Act.put, List.setIfInBounds_toArray, List.set_cons_zero, List.set_cons_succ]
  have H7 := WirS.hide hb
  clear hb H5
  refine hK.out _ _ ⟨H7.out.head.cell 0, H7.out.head.cell 1, rangeAt0 H7.out.swap.head⟩ (fun hHeld => ?_)
  clear hK K
  refine' wpAnyH_take (i := 19) (oi := _) (v := _) rfl (by kernel_rfl) (by kernel_rfl) (by kernel_rfl) (fun _ _ _ h => h) (Or.inl ⟨by kernel_rfl, ?hy19⟩) (by assumption) ?rest19
  case hy19 =>
    intro w hSw
    try dsimp only at hSw
    go_simp
    try with_reducible rfl
  case rest19 =>
  try simp only [List.getElem_toArray, List.getElem_cons_succ, List.getElem_cons_zero, Act.put, List.setIfInBounds_toArray, List.set_cons_zero, List.set_cons_succ]
  refine' wpAnyH_take (i := 20) (oi := _) (v := _) rfl (by kernel_rfl) (by kernel_rfl) (by kernel_rfl) (fun _ _ _ h => h) (Or.inl ⟨by kernel_rfl, ?hy20⟩) (by assumption) ?rest20
  case hy20 =>
    intro w hSw
    try dsimp only at hSw
    go_simp
    try with_reducible rfl
  case rest20 =>
  try simp only [List.getElem_toArray, List.getElem_cons_succ, List.getElem_cons_zero, Act.put, List.setIfInBounds_toArray, List.set_cons_zero, List.set_cons_succ]
  refine wpAnyH_ready (rs := [21]) (by kernel_rfl) (by simp) ?_
  refine AllReadyH.cons rfl (fun K hK => ?_) AllReadyH.nil
  rw [if_pos (by kernel_rfl)]
  refine stepCallH (v := .bool false) (R := fun w' => Bag w w' [box FT F3 (f2 0 0), box HT A3 hd1.cells, own (.slice va 135 vc) (hform hd1)]) (by kernel_rfl) ((HN2.out y6).mono fun e w' ⟨h1, h2⟩ => ⟨h1, H7.out.more h2⟩) ?_
  rintro y7 hb
  try simp only [List.getElem_toArray, List.getElem_cons_succ, List.getElem_cons_zero, Act.put, List.setIfInBounds_toArray, List.set_cons_zero, List.set_cons_succ]
  have H6 := WirS.hide hb
  clear hb H7
  refine hK.out _ _ ⟨H6.out.head.cell 0, H6.out.head.cell 1, rangeAt0 H6.out.swap.head⟩ (fun hHeld => ?_)
  clear hK K
  refine' wpAnyH_take (i := 22) (oi := _) (v := _) rfl (by kernel_rfl) (by kernel_rfl) (by kernel_rfl) (fun _ _ _ h => h) (Or.inl ⟨by kernel_rfl, ?hy22⟩) (by assumption) ?rest22
  case hy22 =>
    intro w hSw
    try dsimp only at hSw
    go_simp
    try with_reducible rfl
  case rest22 =>
  try simp only [List.getElem_toArray, List.getElem_cons_succ, List.getElem_cons_zero, Act.put, List.setIfInBounds_toArray, List.set_cons_zero, List.set_cons_succ]
  refine' wpAnyH_take (i := 23) (oi := _) (v := _) rfl (by kernel_rfl) (by kernel_rfl) (by kernel_rfl) (fun _ _ _ h => h) (Or.inl ⟨by kernel_rfl, ?hy23⟩) (by assumption) ?rest23
  case hy23 =>
    intro w hSw
    try dsimp only at hSw
    go_simp
    try with_reducible rfl
  case rest23 =>
  try simp only [List.getElem_toArray, List.getElem_cons_succ, List.getElem_cons_zero, Act.put, List.setIfInBounds_toArray, List.set_cons_zero, List.set_cons_succ]
  refine' wpAnyH_take (i := 24) (oi := _) (v := _) rfl (by kernel_rfl) (by kernel_rfl) (by kernel_rfl) (fun _ _ _ h => h) (Or.inl ⟨by kernel_rfl, ?hy24⟩) (by assumption) ?rest24
  case hy24 =>
    intro w hSw
    try dsimp only at hSw
    go_simp
    try with_reducible rfl
  case rest24 =>
  try simp only [List.getElem_toArray, List.getElem_cons_succ, List.getElem_cons_zero, Act.put, List.setIfInBounds_toArray, List.set_cons_zero]
  refine wpAnyH_done (by kernel_rfl) ?_ _
  refine NoPanic.normal ?_
  go_wp2_with fail
  go_ret
  exact ⟨rfl, H6.out.low⟩
end HdK
end Go.Proofs.YtfmegeibnjmfpaaDoor

namespace Go.Proofs.YtfmegeibnjmfpaaDoor
namespace HdN
open Go.RowKit
open BlkM WirM WirS HdA HdB HdC HdE HdF HdG HdP HdQ
open WirD (numB)
open WirE (tb NewB)
open WirX (Thg Bag own bag_own)
open WirAA (box bag_box)
open WirAB (turn3 sCx)
open WirRT (rng)
open HdK
open ValBK (slB sSh)
open WirH (sa bin_sub)

theorem zc (n : Nat) : Builtin.zeroCells (Value.int .u8 0).cells n = (List.replicate n (Value.int .u8 0)).toArray := by
  apply Array.ext
  · simp [Builtin.zeroCells, Value.cells]
  · intro i h1 h2
    simp [Builtin.zeroCells, Value.cells, Nat.mod_one]
theorem arr_eq (olds : List Int) (m ex : Nat) : (b8 olds).toArray ++ ((List.replicate m (Value.int .u8 0)).toArray ++ (List.replicate ex (Value.int .u8 0)).toArray) = (b8 (olds ++ List.replicate (m + ex) 0)).toArray := by
  simp [b8]
/-- append of so many noughts, where there is no room. -/
theorem app_zeros (w : World) (g k : Nat) (olds : List Int) (hl : olds.length = k) (hc : ∀ j u, (b8 olds)[j]? = some u → w.cell? ⟨g, 0 + j, none⟩ = some u) (m : Nat) (hm0 : 0 < m) (hk : k ≤ 1000) (hm : m ≤ 1000) :
    ∃ cap ex, k + m ≤ cap ∧ (Builtin.append_ #[22, 3] 22 #[.slice (some ⟨g, 0, none⟩) k k, .int .i64 (m : Int)]).run Tryd.prog w = .ok (.slice (some ⟨w.heap.size, 0, none⟩) (k + m) cap) (w.drew.alloc (.cells (b8 (olds ++ (List.replicate m 0 ++ List.replicate ex 0))).toArray 5)) := by
  obtain ⟨i0, hi, hz0, hz1, hz2⟩ := info_parts (show (Tryd.prog.info? 5).map (fun i => (i.zero, i.size, i.bytes)) = some (some (.int .u8 0), 1, 1) by kernel_rfl)
  have hold : (Builtin.firstCells i0.size k (.slice (some ⟨g, 0, none⟩) k k)).run Tryd.prog w.drew = .ok (b8 olds).toArray w.drew := run_firstCells_some w.drew i0.size k ⟨g, 0, none⟩ k k (b8 olds) (by rw [b8_len, hl, hz1]; omega) (fun j u hj => by
    have := hc j u hj
    rw [Addr.add_mid]
    exact this)
  rw [hz1] at hold
  have hn : ¬ (k + m ≤ k) := by omega
  have h63' : ¬ (9223372036854775807 < ((k : Int) + (m : Int))) := by omega
  have h48' : ¬ (281474976710656 < Builtin.nextslicecap (k + m) k * i0.bytes) := by
    have := growslice_fits (need := k + m) (old := k) (bytes := i0.bytes) (by omega) (by rw [hz2]; omega)
    omega
  have hw : IntKind.i64.wrap (m : Int) = (m : Int) := IntWalk.i64_in _ (by omega)
  have hneg : ¬ ((m : Int) < 0) := by omega
  have hbig : ¬ (281474976710656 < (m : Int) * ((i0.bytes : Nat) : Int)) := by rw [hz2]; omega
  have hne : ¬ m = 0 := by omega
  refine ⟨grownCap w (k + m) k 5, grownCap w (k + m) k 5 - (k + m), grownCap_ge w (k + m) k _, ?_⟩
  have ha : (asInt (.int .i64 (m : Int))).run Tryd.prog w = .ok (m : Int) w := by simp [asInt, asIntOf]
  simp [Builtin.append_, run_underlying Tryd.underlying22, run_underlying Tryd.underlying3, sizeOf, typeInfo, zeroValue, hi, hz0, hn, h63', h48', Question.forced, hold, newRow, grownCap, ha, hw, hneg, hbig, hne, hz1]
  rw [zc, zc, arr_eq]
set_option maxRecDepth 20000 in
set_option maxHeartbeats 8000000 in
theorem fails_any (w : World) (b : Option Addr) (n c : Nat) (bs : List Int) (e a : Int) (hd : hdec bs = ((e, a), hd0)) (hb : BIn w (.slice b n c) bs) (hr : rng bs) (hn : n ≤ 1099511627776) :
    Calls Tryd.prog 65 #[.slice b n c, .int .i64 e, .int .i64 a] w fun en w' => en = .returned (.bool true) ∧ Below w.heap.size w w' := by
  have H1 := WirS.hide (Bag.nil (Below.refl w.heap.size w))
  have HC := WirS.hide (dec_eq hd hb hr hn)
  clear hd hb hr hn
  go_enter Tryd.func65, Tryd.ntmps65
  go_upto_region 1 with fail
  refine wp_region_lit ?_
  refine sV (.slice b n c) (w) (by kernel_rfl) (by kernel_rfl) ?_
  simp only [Act.put, List.setIfInBounds_toArray, List.set_cons_succ, List.set_cons_zero]
  refine sC (R := fun w' => Below w.heap.size w w') (v := .tuple #[.agg (hd0).cells.toArray, .agg #[.int .i64 e, .int .i64 a]]) (by kernel_rfl) (by kernel_rfl) HC.out ?_
  rintro q2 hb
  simp only [Act.put, List.setIfInBounds_toArray, List.set_cons_succ, List.set_cons_zero]
  have HB2 := WirS.hide (H1.out.more hb)
  clear hb
  refine sV (.tuple #[.agg (hd0).cells.toArray, .agg #[.int .i64 e, .int .i64 a]]) (q2) (by kernel_rfl) (by kernel_rfl) ?_
  simp only [Act.put, List.setIfInBounds_toArray, List.set_cons_succ, List.set_cons_zero]
  refine sV (.agg (hd0).cells.toArray) (q2) (by kernel_rfl) (by kernel_rfl) ?_
  simp only [Act.put, List.setIfInBounds_toArray, List.set_cons_succ, List.set_cons_zero]
  refine sV (.agg #[.int .i64 e, .int .i64 a]) (q2) (by kernel_rfl) (by kernel_rfl) ?_
  simp only [Act.put, List.setIfInBounds_toArray, List.set_cons_succ, List.set_cons_zero]
  refine sV (.pointer (some ⟨q2.heap.size, 0, none⟩)) (q2.alloc (.cells hd0.cells.toArray 58)) (by kernel_rfl) (al_hd _ _ (by rfl) q2) ?_
  simp only [Act.put, List.setIfInBounds_toArray, List.set_cons_succ, List.set_cons_zero]
  obtain ⟨A2, eA⟩ : ∃ A, q2.heap.size = A := ⟨_, rfl⟩
  have hbA := bag_box (T := HT) (cs := hd0.cells) (X := A2) HB2.out eA.symm (w' := q2.alloc (.cells hd0.cells.toArray 58)) (by rw [← eA]; exact At.new _ _ _) (Below.alloc (Below.refl _ _) (Nat.le_refl _) _)
  rw [eA]
  clear eA
  generalize World.alloc q2 _ = x2 at *
  refine sV (.pointer (some ⟨x2.heap.size, 0, none⟩)) (x2.alloc (.cells (f2 0 0).toArray 76)) (by kernel_rfl) (by kernel_rfl) ?_
  simp only [Act.put, List.setIfInBounds_toArray, List.set_cons_succ, List.set_cons_zero]
  obtain ⟨F2, eF⟩ : ∃ A, x2.heap.size = A := ⟨_, rfl⟩
  have hbF := bag_box (T := FT) (cs := f2 0 0) (X := F2) hbA eF.symm (w' := x2.alloc (.cells (f2 0 0).toArray 76)) (by rw [← eF]; exact At.new _ _ _) (Below.alloc (Below.refl _ _) (Nat.le_refl _) _)
  rw [eF]
  clear eF hbA HB2
  generalize World.alloc x2 _ = z2 at *
  refine stepStore (by rfl) _ _ _ (by rfl) A2 (hd0).cells (by kernel_rfl) (by kernel_rfl) hbF.swap.head 131 (by kernel_rfl) hd0.len (hd0).len (one_cells _) ?_
  simp only [Act.put]
  have hbG := (bag_row hbF.swap (hd0).cells).swap
  refine stepStore (by rfl) _ _ _ (by rfl) F2 (f2 e a) (by kernel_rfl) (by kernel_rfl) hbG.head 2 (by kernel_rfl) rfl rfl (by kernel_rfl) ?_
  simp only [Act.put]
  have H2 := WirS.hide (bag_row hbG (f2 e a))
  clear hbF hbG
  generalize World.setRow z2 A2 _ = t2 at *
  generalize World.setRow t2 F2 _ = y2 at *
  have d0 : y2.cell? ⟨F2, 0, none⟩ = some (.int .i64 e) := H2.out.head.cell 0
  have d1 : y2.cell? ⟨F2, 1, none⟩ = some (.int .i64 a) := H2.out.head.cell 1
  have hf := fun W => WirX.fault_eq e a e a W
  simp only [beq_self_eq_true, Bool.and_self] at hf
  go_upto_region 2 with fail
  refine wp_region_lit ?_
  refine sL (by kernel_rfl) _ _ (by rfl) _ (by kernel_rfl) H2.out.swap.head _ _ Tryd.underlying58 rfl (by kernel_rfl) hd0.len ?_
  simp only [Act.put, List.setIfInBounds_toArray, List.set_cons_succ, List.set_cons_zero]
  refine sV (.agg hd0.cells.toArray) (y2) (by kernel_rfl) (by kernel_rfl) ?_
  simp only [Act.put, List.setIfInBounds_toArray, List.set_cons_succ, List.set_cons_zero]
  refine sB (by kernel_rfl) .eql 58 _ _ _ (by rfl) (.agg hd0.cells.toArray) (.agg hd0.cells.toArray) (by kernel_rfl) (by kernel_rfl) (.bool true) (heq_self hd0 y2) (by kernel_rfl) ?_
  simp only [Act.put, List.setIfInBounds_toArray, List.set_cons_succ, List.set_cons_zero]
  go_wp2_with fail
  go_ret
  exact ⟨rfl, H2.out.low⟩
def hx : Hd := ⟨⟨#[97]⟩, 0, 2, WirN.zz 128, zz_len 128⟩
def hy : Hd := ⟨⟨#[65]⟩, 0, 2, WirN.zz 128, zz_len 128⟩
def hz : Hd := ⟨⟨#[97]⟩, 1, -1, WirN.zz 128, zz_len 128⟩
def low6 : List Int := [1, 1, 97, 0, 1, 2]
def low : List Int := low6 ++ List.replicate 128 0
theorem low_dec : hdec low = ((3, 0), hd0) := by
  have h1 : (hdec low).1 = (3, 0) := by decide +kernel
  have hr : rng low := by
    intro x hx
    simp [low, low6] at hx
    omega
  have h2 := (dec_fault hr (by rw [h1]; decide)).1
  exact Prod.ext h1 h2
theorem cut_dec : hdec ((hform hd1).take 134) = ((6, 103), hd0) := by
  have h1 : (hdec ((hform hd1).take 134)).1 = (6, 103) := by decide +kernel
  have h2 := (dec_fault (fun x hx => hd1_rng x (List.mem_of_mem_take hx)) (by rw [h1]; decide)).1
  exact Prod.ext h1 h2
theorem more_dec : hdec (hform hd1 ++ [0]) = ((4, 135), hd0) := by
  have := dec_whole hd1_ok [0]
  rwa [if_neg (by simp), hd1_len] at this
theorem own135 {w : World} {va : Option Addr} {vn vc : Nat} (h : WirM.Own w 5 (.slice va vn vc) (hform hd1)) : vn = 135 ∧ 135 ≤ vc := by
  obtain ⟨_, _, e, hc, _⟩ := h.bin
  rw [hd1_len] at hc
  cases e
  exact ⟨hd1_len, hc⟩
set_option maxRecDepth 20000 in
set_option maxHeartbeats 16000000 in
theorem known_any (w : World) : Calls Tryd.prog 40 #[] w fun e w' => e = .returned (.bool true) ∧ Below w.heap.size w w' := by
  have HO := WirS.hide (fun U => one_any U)
  have HE := WirS.hide (fun U => encode_ok U hd1 hd1_ok)
  have H0 := WirS.hide (Bag.nil (Below.refl w.heap.size w))
  go_enter Tryd.func40, Tryd.ntmps40
  go_upto_region 1 with fail
  refine wp_region_lit ?_
  refine sC (R := fun w' => Below w.heap.size w w') (by kernel_rfl) (by kernel_rfl) (HO.out w) ?_
  rintro u1 hb
  simp only [Act.put, List.setIfInBounds_toArray, List.set_cons_succ, List.set_cons_zero]
  have H1 := WirS.hide (H0.out.more hb)
  clear hb H0
  refine sCx (by kernel_rfl) (by kernel_rfl) (HE.out u1) ?_
  rintro e u2 ⟨va, vn, vc, rfl, ho, hnw, hb⟩
  refine ⟨_, rfl, ?_⟩
  simp only [Act.put, List.setIfInBounds_toArray, List.set_cons_succ, List.set_cons_zero]
  obtain ⟨rfl, hvc⟩ := own135 ho
  have HVC := WirS.hide hvc
  have H2 := WirS.hide (bag_own H1.out ho hnw hb)
  clear ho hnw hb H1 hvc
  go_upto_region 2 with fail
  refine wp_region_lit ?_
  refine sC (R := fun w' => Below u2.heap.size u2 w') (v := .agg hd1.cells.toArray) (by kernel_rfl) (by kernel_rfl) (HO.out u2) ?_
  rintro o0 hb
  simp only [Act.put, List.setIfInBounds_toArray, List.set_cons_succ, List.set_cons_zero]
  have G0 := WirS.hide (H2.out.more hb)
  clear hb H2
  refine sC (R := fun w' => Below o0.heap.size o0 w') (v := .agg hd1.cells.toArray) (by kernel_rfl) (by kernel_rfl) (HO.out o0) ?_
  rintro o1 hb
  simp only [Act.put, List.setIfInBounds_toArray, List.set_cons_succ, List.set_cons_zero]
  have G1 := WirS.hide (G0.out.more hb)
  clear hb G0
  refine sC (R := fun w' => Below o1.heap.size o1 w') (v := .agg hd1.cells.toArray) (by kernel_rfl) (by kernel_rfl) (HO.out o1) ?_
  rintro o2 hb
  simp only [Act.put, List.setIfInBounds_toArray, List.set_cons_succ, List.set_cons_zero]
  have G2 := WirS.hide (G1.out.more hb)
  clear hb G1
  refine sV (.pointer (some ⟨o2.heap.size, 0, none⟩)) (o2.alloc (.cells hd0.cells.toArray 58)) (by kernel_rfl) (al_hd _ _ (by rfl) o2) ?_
  simp only [Act.put, List.setIfInBounds_toArray, List.set_cons_succ, List.set_cons_zero]
  obtain ⟨X, eX⟩ : ∃ A, o2.heap.size = A := ⟨_, rfl⟩
  have K0 := WirS.hide (bag_box (T := HT) (cs := hd0.cells) (X := X) G2.out eX.symm (w' := o2.alloc (.cells hd0.cells.toArray 58)) (by rw [← eX]; exact At.new _ _ _) (Below.alloc (Below.refl _ _) (Nat.le_refl _) _))
  rw [eX]
  clear eX G2
  generalize World.alloc o2 _ = p0 at *
  refine sV (.pointer (some ⟨p0.heap.size, 0, none⟩)) (p0.alloc (.cells hd0.cells.toArray 58)) (by kernel_rfl) (al_hd _ _ (by rfl) p0) ?_
  simp only [Act.put, List.setIfInBounds_toArray, List.set_cons_succ, List.set_cons_zero]
  obtain ⟨Y, eY⟩ : ∃ A, p0.heap.size = A := ⟨_, rfl⟩
  have K1 := WirS.hide (bag_box (T := HT) (cs := hd0.cells) (X := Y) K0.out eY.symm (w' := p0.alloc (.cells hd0.cells.toArray 58)) (by rw [← eY]; exact At.new _ _ _) (Below.alloc (Below.refl _ _) (Nat.le_refl _) _))
  rw [eY]
  clear eY K0
  generalize World.alloc p0 _ = p1 at *
  refine sV (.pointer (some ⟨p1.heap.size, 0, none⟩)) (p1.alloc (.cells hd0.cells.toArray 58)) (by kernel_rfl) (al_hd _ _ (by rfl) p1) ?_
  simp only [Act.put, List.setIfInBounds_toArray, List.set_cons_succ, List.set_cons_zero]
  obtain ⟨Z, eZ⟩ : ∃ A, p1.heap.size = A := ⟨_, rfl⟩
  have K2 := WirS.hide (bag_box (T := HT) (cs := hd0.cells) (X := Z) K1.out eZ.symm (w' := p1.alloc (.cells hd0.cells.toArray 58)) (by rw [← eZ]; exact At.new _ _ _) (Below.alloc (Below.refl _ _) (Nat.le_refl _) _))
  rw [eZ]
  clear eZ K1
  generalize World.alloc p1 _ = p2 at *
  have L0 := WirS.hide (turn3 K2.out)
  clear K2
  refine stepStore (by rfl) _ _ _ (by rfl) X hd1.cells (by kernel_rfl) (by kernel_rfl) (L0.out).head 131 (by kernel_rfl) hd0.len hd1.len (one_cells _) ?_
  simp only [Act.put]
  have L1 := WirS.hide (bag_row (L0.out) hd1.cells)
  clear L0
  generalize World.setRow p2 X _ = r0 at *
  refine stepStore (by rfl) _ _ _ (by rfl) Y hd1.cells (by kernel_rfl) (by kernel_rfl) (L1.out.swap).head 131 (by kernel_rfl) hd0.len hd1.len (one_cells _) ?_
  simp only [Act.put]
  have L2 := WirS.hide (bag_row (L1.out.swap) hd1.cells)
  clear L1
  generalize World.setRow r0 Y _ = r1 at *
  refine stepStore (by rfl) _ _ _ (by rfl) Z hd1.cells (by kernel_rfl) (by kernel_rfl) ((turn3 L2.out)).head 131 (by kernel_rfl) hd0.len hd1.len (one_cells _) ?_
  simp only [Act.put]
  have L3 := WirS.hide (bag_row ((turn3 L2.out)) hd1.cells)
  clear L2
  generalize World.setRow r1 Z _ = r2 at *
  have M0 : Hid (Bag w r2 [box HT X hd1.cells, box HT Y hd1.cells, box HT Z hd1.cells, own (.slice va 135 vc) (hform hd1)]) := WirS.hide (ValSO.first3 L3.out)
  clear L3
  go_upto_region 3 with fail
  have c0 : r2.cell? ⟨X, 1, none⟩ = some (.int .i64 1) := M0.out.head.cell 1
  have f0 : r2.frozen? ⟨X, 1, none⟩ = false := At.frozen M0.out.head 1
  have M1 : Hid (Bag w (r2.setCell ⟨X, 1, none⟩ (.int .i64 0)) [box HT X hx.cells, box HT Y hd1.cells, box HT Z hd1.cells, own (.slice va 135 vc) (hform hd1)]) := WirS.hide (WirAA.bag_set M0.out 1 (.int .i64 0))
  clear M0
  go_upto_region 4 with fail
  clear c0 f0
  generalize World.setCell r2 _ _ = r3 at *
  have c0 : r3.cell? ⟨Y, 0, none⟩ = some (.string ⟨#[97]⟩) := M1.out.swap.head.cell 0
  have f0 : r3.frozen? ⟨Y, 0, none⟩ = false := At.frozen M1.out.swap.head 0
  have M2 := WirS.hide (WirAA.bag_set M1.out.swap 0 (.string ⟨#[65]⟩))
  clear M1
  go_upto_region 5 with fail
  clear c0 f0
  generalize World.setCell r3 _ _ = r4 at *
  have c0 : r4.cell? ⟨Y, 1, none⟩ = some (.int .i64 1) := M2.out.head.cell 1
  have f0 : r4.frozen? ⟨Y, 1, none⟩ = false := At.frozen M2.out.head 1
  have M3 : Hid (Bag w (r4.setCell ⟨Y, 1, none⟩ (.int .i64 0)) [box HT Y hy.cells, box HT X hx.cells, box HT Z hd1.cells, own (.slice va 135 vc) (hform hd1)]) := WirS.hide (WirAA.bag_set M2.out 1 (.int .i64 0))
  clear M2
  go_upto_region 6 with fail
  clear c0 f0
  generalize World.setCell r4 _ _ = r5 at *
  have c0 : r5.cell? ⟨Z, 2, none⟩ = some (.int .i64 2) := (turn3 M3.out).head.cell 2
  have f0 : r5.frozen? ⟨Z, 2, none⟩ = false := At.frozen (turn3 M3.out).head 2
  have M4 : Hid (Bag w (r5.setCell ⟨Z, 2, none⟩ (.int .i64 (-1))) [box HT Z hz.cells, box HT X hx.cells, box HT Y hy.cells, own (.slice va 135 vc) (hform hd1)]) := WirS.hide (WirAA.bag_set (turn3 M3.out) 2 (.int .i64 (-1)))
  clear M3
  go_upto_region 7 with fail
  clear c0 f0
  generalize World.setCell r5 _ _ = r6 at *
  refine wp_region_lit ?_
  refine sV (.slice va 135 vc) (r6) (by kernel_rfl) (by kernel_rfl) ?_
  simp only [Act.put, List.setIfInBounds_toArray, List.set_cons_succ, List.set_cons_zero]
  refine sV (.int .i64 135) (r6) (by kernel_rfl) (by kernel_rfl) ?_
  simp only [Act.put, List.setIfInBounds_toArray, List.set_cons_succ, List.set_cons_zero]
  refine sV (.bool false) (r6) (by kernel_rfl) (by kernel_rfl) ?_
  simp only [Act.put, List.setIfInBounds_toArray, List.set_cons_succ, List.set_cons_zero]
  refine sV (.bool false) (r6) (by kernel_rfl) (by kernel_rfl) ?_
  simp only [Act.put, List.setIfInBounds_toArray, List.set_cons_succ, List.set_cons_zero]
  refine sV (.slice va 135 vc) (r6) (by kernel_rfl) (by kernel_rfl) ?_
  simp only [Act.put, List.setIfInBounds_toArray, List.set_cons_succ, List.set_cons_zero]
  refine sSh (by kernel_rfl) _ _ _ (by rfl) (.slice va 135 vc) (.int .i64 6) (.slice (sa va vc 0) 6 (vc - 0)) (by kernel_rfl) (by kernel_rfl) (slB va 135 vc 6 (by have := HVC.out; omega) r6) ?_
  simp only [Act.put, List.setIfInBounds_toArray, List.set_cons_succ, List.set_cons_zero]
  refine sV (.slice (some ⟨r6.heap.size, 0, none⟩) 6 6) (r6.alloc (.cells (b8 [1, 1, 97, 1, 1, 1]).toArray 5)) (by kernel_rfl) (by kernel_rfl) ?_
  simp only [Act.put, List.setIfInBounds_toArray, List.set_cons_succ, List.set_cons_zero]
  have hal : Below r6.heap.size r6 (r6.alloc (.cells (b8 [1, 1, 97, 1, 1, 1]).toArray 5)) := Below.alloc (Below.refl _ _) (Nat.le_refl _) _
  have M5 := WirS.hide (M4.out.more hal)
  have hn6 := BIn.new r6 5 [1, 1, 97, 1, 1, 1] 6 6 (0, 0) (by decide) (by decide)
  have hown := (M5.out.drop.drop.drop.head : WirM.Own _ _ _ _).bin
  have h135 : (hform hd1).length = 135 := hd1_len
  have hb6 : BIn (r6.alloc (.cells (b8 [1, 1, 97, 1, 1, 1]).toArray 5)) (.slice (sa va vc 0) 6 (vc - 0)) [1, 1, 97, 1, 1, 1] := by
    have h := bin_sub (at' := 0) (n := 6) (bs := hform hd1) (by rw [h135]; exact hown) (by rw [h135]; decide)
    rwa [show ((hform hd1).drop 0).take 6 = [1, 1, 97, 1, 1, 1] by decide +kernel] at h
  have HS := WirS.hide (WirU.same_any (r6.alloc (.cells (b8 [1, 1, 97, 1, 1, 1]).toArray 5)) (sa va vc 0) (some ⟨r6.heap.size, 0, none⟩) 6 (vc - 0) 6 6 _ _ hb6 hn6 (by decide) (by decide))
  rw [show decide (([1, 1, 97, 1, 1, 1] : List Int) = [1, 1, 97, 1, 1, 1].take 6) = true by decide] at HS
  clear hal hn6 hown hb6 M4
  generalize hP6 : r6.heap.size = P6 at *
  clear hP6
  generalize World.alloc r6 _ = r7 at *
  refine sC (R := fun w' => r7 = w') (v := .bool true) (by kernel_rfl) (by kernel_rfl) HS.out ?_
  rintro _ rfl
  simp only [Act.put, List.setIfInBounds_toArray, List.set_cons_succ, List.set_cons_zero]
  clear HS
  refine sV (.bool false) (r7) (by kernel_rfl) (by kernel_rfl) ?_
  simp only [Act.put, List.setIfInBounds_toArray, List.set_cons_succ, List.set_cons_zero]
  go_upto_region 9 with fail
  refine wp_region_lit ?_
  refine sV (.slice (some ⟨r7.heap.size, 0, none⟩) 6 6) (r7.alloc (.cells (b8 low6).toArray 5)) (by kernel_rfl) (by kernel_rfl) ?_
  simp only [Act.put, List.setIfInBounds_toArray, List.set_cons_succ, List.set_cons_zero]
  obtain ⟨r8, e8⟩ : ∃ Y, Y = r7.alloc (.cells (b8 low6).toArray 5) := ⟨_, rfl⟩
  obtain ⟨P7, eP⟩ : ∃ Y, r7.heap.size = Y := ⟨_, rfl⟩
  have hal : Below r7.heap.size r7 r8 := by rw [e8]; exact Below.alloc (Below.refl _ _) (Nat.le_refl _) _
  have hA8 : At r8 P7 5 (b8 low6) := by rw [e8, ← eP]; exact At.new _ _ _
  have M6 := WirS.hide (M5.out.more hal)
  rw [← e8, eP]
  clear e8 eP hal M5
  obtain ⟨cap, ex, hcap, hrun⟩ := app_zeros r8 P7 6 low6 rfl (fun j u hj => by rw [Nat.zero_add]; exact (hA8.cell j).trans hj) 128 (by decide) (by decide) (by decide)
  refine sA (by kernel_rfl) 22 3 _ _ (by rfl) (.slice (some ⟨P7, 0, none⟩) 6 6) (.int .i64 128) (by kernel_rfl) (by kernel_rfl) (.slice (some ⟨r8.heap.size, 0, none⟩) (6 + 128) cap) (r8.drew.alloc (.cells (b8 (low6 ++ (List.replicate 128 0 ++ List.replicate ex 0))).toArray 5)) hrun ?_
  simp only [Act.put, List.setIfInBounds_toArray, List.set_cons_succ, List.set_cons_zero]
  have hal : Below r8.heap.size r8 (r8.drew.alloc (.cells (b8 (low6 ++ (List.replicate 128 0 ++ List.replicate ex 0))).toArray 5)) := Below.alloc (Below.drew (Below.refl _ _)) (by simp) _
  have M7 := WirS.hide (M6.out.more hal)
  have hlow : BIn (r8.drew.alloc (.cells (b8 (low6 ++ (List.replicate 128 0 ++ List.replicate ex 0))).toArray 5)) (.slice (some ⟨r8.heap.size, 0, none⟩) 134 cap) low := by
    have := BIn.new r8.drew 5 (low6 ++ (List.replicate 128 0 ++ List.replicate ex 0)) 134 cap (0, 0) (by simp [low6]) hcap
    have e : (low6 ++ (List.replicate 128 0 ++ List.replicate ex 0)).take 134 = low := by
      rw [← List.append_assoc]
      exact List.take_left' rfl
    rw [e] at this
    exact this
  generalize hP8 : r8.heap.size = P8 at *
  have HLOW := WirS.hide hlow
  clear hal hlow hA8 hrun hcap M6 hP8
  generalize World.alloc r8.drew _ = r9 at *
  have HN0 := WirS.hide (fun U => show Calls Tryd.prog 38 #[.string ⟨#[]⟩] U (fun e w' => e = .returned (.bool false) ∧ Below U.heap.size U w') from by
    have := name_any U ⟨#[]⟩ (by decide)
    rwa [show nameB ⟨#[]⟩ = false by decide +kernel] at this)
  have HN1 := WirS.hide (fun U => show Calls Tryd.prog 38 #[.string (repA 33)] U (fun e w' => e = .returned (.bool false) ∧ Below U.heap.size U w') from by
    have := name_any U (repA 33) (by rw [repA_size]; decide)
    rwa [show nameB (repA 33) = false by decide +kernel] at this)
  have HN2 := WirS.hide (fun U => show Calls Tryd.prog 38 #[.string (repA 32)] U (fun e w' => e = .returned (.bool true) ∧ Below U.heap.size U w') from by
    have := name_any U (repA 32) (by rw [repA_size]; decide)
    rwa [show nameB (repA 32) = true by decide +kernel] at this)
  have HT1 := WirS.hide (fun U => times_any U 33 (by decide))
  have HT2 := WirS.hide (fun U => times_any U 32 (by decide))
  generalize repA 33 = s33 at *
  generalize repA 32 = s32 at *
  go_upto_region 10 with fail
  refine wp_region_lit ?_
  refine sC (R := fun w' => Below r9.heap.size r9 w') (v := .bool false) (by kernel_rfl) (by kernel_rfl) (HN0.out r9) ?_
  rintro n1 hb
  simp only [Act.put, List.setIfInBounds_toArray, List.set_cons_succ, List.set_cons_zero]
  have M8 := WirS.hide (M7.out.more hb)
  have HLOW' := WirS.hide (HLOW.out.below hb)
  clear hb M7 HLOW
  have HLOW := HLOW'
  clear HLOW'
  refine sV (.bool true) (n1) (by kernel_rfl) (by kernel_rfl) ?_
  simp only [Act.put, List.setIfInBounds_toArray, List.set_cons_succ, List.set_cons_zero]
  refine sV (.bool true) (n1) (by kernel_rfl) (by kernel_rfl) ?_
  simp only [Act.put, List.setIfInBounds_toArray, List.set_cons_succ, List.set_cons_zero]
  refine sC (R := fun w' => n1 = w') (v := .string s33) (by kernel_rfl) (by kernel_rfl) (HT1.out n1) ?_
  rintro _ rfl
  simp only [Act.put, List.setIfInBounds_toArray, List.set_cons_succ, List.set_cons_zero]
  refine sC (R := fun w' => Below n1.heap.size n1 w') (v := .bool false) (by kernel_rfl) (by kernel_rfl) (HN1.out n1) ?_
  rintro n2 hb
  simp only [Act.put, List.setIfInBounds_toArray, List.set_cons_succ, List.set_cons_zero]
  have M9 := WirS.hide (M8.out.more hb)
  have HLOW' := WirS.hide (HLOW.out.below hb)
  clear hb M8 HLOW
  have HLOW := HLOW'
  clear HLOW'
  refine sV (.bool true) (n2) (by kernel_rfl) (by kernel_rfl) ?_
  simp only [Act.put, List.setIfInBounds_toArray, List.set_cons_succ, List.set_cons_zero]
  refine sV (.bool true) (n2) (by kernel_rfl) (by kernel_rfl) ?_
  simp only [Act.put, List.setIfInBounds_toArray, List.set_cons_succ, List.set_cons_zero]
  refine sV (.bool true) (n2) (by kernel_rfl) (by kernel_rfl) ?_
  simp only [Act.put, List.setIfInBounds_toArray, List.set_cons_succ, List.set_cons_zero]
  refine sC (R := fun w' => n2 = w') (v := .string s32) (by kernel_rfl) (by kernel_rfl) (HT2.out n2) ?_
  rintro _ rfl
  simp only [Act.put, List.setIfInBounds_toArray, List.set_cons_succ, List.set_cons_zero]
  refine sC (R := fun w' => Below n2.heap.size n2 w') (v := .bool true) (by kernel_rfl) (by kernel_rfl) (HN2.out n2) ?_
  rintro n3 hb
  simp only [Act.put, List.setIfInBounds_toArray, List.set_cons_succ, List.set_cons_zero]
  have N1 := WirS.hide (M9.out.more hb)
  have HLOW' := WirS.hide (HLOW.out.below hb)
  clear hb M9 HLOW
  have HLOW := HLOW'
  clear HLOW'
  refine sV (.bool true) (n3) (by kernel_rfl) (by kernel_rfl) ?_
  simp only [Act.put, List.setIfInBounds_toArray, List.set_cons_succ, List.set_cons_zero]
  go_upto_region 11 with fail
  have HX := WirS.hide (fun U => show Calls Tryd.prog 36 #[.agg hx.cells.toArray] U (fun e w' => e = .returned (.int .i64 3) ∧ Below U.heap.size U w') from by
    have := check_any U hx (by decide)
    rwa [show hchk hx = 3 by decide +kernel] at this)
  have HY := WirS.hide (fun U => show Calls Tryd.prog 36 #[.agg hy.cells.toArray] U (fun e w' => e = .returned (.int .i64 5) ∧ Below U.heap.size U w') from by
    have := check_any U hy (by decide)
    rwa [show hchk hy = 5 by decide +kernel] at this)
  have HZ := WirS.hide (fun U => show Calls Tryd.prog 36 #[.agg hz.cells.toArray] U (fun e w' => e = .returned (.int .i64 3) ∧ Below U.heap.size U w') from by
    have := check_any U hz (by decide)
    rwa [show hchk hz = 3 by decide +kernel] at this)
  refine wp_region_lit ?_
  refine sL (by kernel_rfl) _ _ (by rfl) _ (by kernel_rfl) N1.out.swap.head _ _ Tryd.underlying58 rfl (by kernel_rfl) (hx).len ?_
  simp only [Act.put, List.setIfInBounds_toArray, List.set_cons_succ, List.set_cons_zero]
  refine sC (R := fun w' => Below n3.heap.size n3 w') (v := .int .i64 3) (by kernel_rfl) (by kernel_rfl) (HX.out n3) ?_
  rintro n4 hb
  simp only [Act.put, List.setIfInBounds_toArray, List.set_cons_succ, List.set_cons_zero]
  have N2 := WirS.hide (N1.out.more hb)
  have HLOW' := WirS.hide (HLOW.out.below hb)
  clear hb N1 HLOW
  have HLOW := HLOW'
  clear HLOW'
  refine sV (.bool true) (n4) (by kernel_rfl) (by kernel_rfl) ?_
  simp only [Act.put, List.setIfInBounds_toArray, List.set_cons_succ, List.set_cons_zero]
  refine sV (.bool true) (n4) (by kernel_rfl) (by kernel_rfl) ?_
  simp only [Act.put, List.setIfInBounds_toArray, List.set_cons_succ, List.set_cons_zero]
  refine sL (by kernel_rfl) _ _ (by rfl) _ (by kernel_rfl) (turn3 N2.out).head _ _ Tryd.underlying58 rfl (by kernel_rfl) (hy).len ?_
  simp only [Act.put, List.setIfInBounds_toArray, List.set_cons_succ, List.set_cons_zero]
  refine sC (R := fun w' => Below n4.heap.size n4 w') (v := .int .i64 5) (by kernel_rfl) (by kernel_rfl) (HY.out n4) ?_
  rintro n5 hb
  simp only [Act.put, List.setIfInBounds_toArray, List.set_cons_succ, List.set_cons_zero]
  have N3 := WirS.hide (N2.out.more hb)
  have HLOW' := WirS.hide (HLOW.out.below hb)
  clear hb N2 HLOW
  have HLOW := HLOW'
  clear HLOW'
  refine sV (.bool true) (n5) (by kernel_rfl) (by kernel_rfl) ?_
  simp only [Act.put, List.setIfInBounds_toArray, List.set_cons_succ, List.set_cons_zero]
  refine sV (.bool true) (n5) (by kernel_rfl) (by kernel_rfl) ?_
  simp only [Act.put, List.setIfInBounds_toArray, List.set_cons_succ, List.set_cons_zero]
  refine sV (.bool true) (n5) (by kernel_rfl) (by kernel_rfl) ?_
  simp only [Act.put, List.setIfInBounds_toArray, List.set_cons_succ, List.set_cons_zero]
  refine sL (by kernel_rfl) _ _ (by rfl) _ (by kernel_rfl) N3.out.head _ _ Tryd.underlying58 rfl (by kernel_rfl) (hz).len ?_
  simp only [Act.put, List.setIfInBounds_toArray, List.set_cons_succ, List.set_cons_zero]
  refine sC (R := fun w' => Below n5.heap.size n5 w') (v := .int .i64 3) (by kernel_rfl) (by kernel_rfl) (HZ.out n5) ?_
  rintro n6 hb
  simp only [Act.put, List.setIfInBounds_toArray, List.set_cons_succ, List.set_cons_zero]
  have N4 := WirS.hide (N3.out.more hb)
  have HLOW' := WirS.hide (HLOW.out.below hb)
  clear hb N3 HLOW
  have HLOW := HLOW'
  clear HLOW'
  refine sV (.bool true) (n6) (by kernel_rfl) (by kernel_rfl) ?_
  simp only [Act.put, List.setIfInBounds_toArray, List.set_cons_succ, List.set_cons_zero]
  refine sV (.bool true) (n6) (by kernel_rfl) (by kernel_rfl) ?_
  simp only [Act.put, List.setIfInBounds_toArray, List.set_cons_succ, List.set_cons_zero]
  go_upto_region 12 with fail
  refine wp_region_lit ?_
  refine sC (R := fun w' => Below n6.heap.size n6 w') (v := .bool true) (by kernel_rfl) (by kernel_rfl) (awake_any n6) ?_
  rintro n7 hb
  simp only [Act.put, List.setIfInBounds_toArray, List.set_cons_succ, List.set_cons_zero]
  have N5 := WirS.hide (N4.out.more hb)
  have HLOW' := WirS.hide (HLOW.out.below hb)
  clear hb N4 HLOW
  have HLOW := HLOW'
  clear HLOW'
  refine sV (.bool true) (n7) (by kernel_rfl) (by kernel_rfl) ?_
  simp only [Act.put, List.setIfInBounds_toArray, List.set_cons_succ, List.set_cons_zero]
  refine sV (.bool true) (n7) (by kernel_rfl) (by kernel_rfl) ?_
  simp only [Act.put, List.setIfInBounds_toArray, List.set_cons_succ, List.set_cons_zero]
  refine sV (.bool true) (n7) (by kernel_rfl) (by kernel_rfl) ?_
  simp only [Act.put, List.setIfInBounds_toArray, List.set_cons_succ, List.set_cons_zero]
  refine sV (.bool true) (n7) (by kernel_rfl) (by kernel_rfl) ?_
  simp only [Act.put, List.setIfInBounds_toArray, List.set_cons_succ, List.set_cons_zero]
  refine sV (.bool true) (n7) (by kernel_rfl) (by kernel_rfl) ?_
  simp only [Act.put, List.setIfInBounds_toArray, List.set_cons_succ, List.set_cons_zero]
  refine sV (.bool true) (n7) (by kernel_rfl) (by kernel_rfl) ?_
  simp only [Act.put, List.setIfInBounds_toArray, List.set_cons_succ, List.set_cons_zero]
  refine sV (.bool true) (n7) (by kernel_rfl) (by kernel_rfl) ?_
  simp only [Act.put, List.setIfInBounds_toArray, List.set_cons_succ, List.set_cons_zero]
  refine sV (.slice va 135 vc) (n7) (by kernel_rfl) (by kernel_rfl) ?_
  simp only [Act.put, List.setIfInBounds_toArray, List.set_cons_succ, List.set_cons_zero]
  refine sSh (by kernel_rfl) _ _ _ (by rfl) (.slice va 135 vc) (.int .i64 134) (.slice (sa va vc 0) 134 (vc - 0)) (by kernel_rfl) (by kernel_rfl) (slB va 135 vc 134 (by have := HVC.out; omega) n7) ?_
  simp only [Act.put, List.setIfInBounds_toArray, List.set_cons_succ, List.set_cons_zero]
  have hcut : BIn n7 (.slice (sa va vc 0) 134 (vc - 0)) ((hform hd1).take 134) := by
    have hown := (N5.out.drop.drop.drop.head : WirM.Own _ _ _ _).bin
    have h := bin_sub (at' := 0) (n := 134) (bs := hform hd1) (by rw [h135]; exact hown) (by rw [h135]; decide)
    rwa [List.drop_zero] at h
  have HF := WirS.hide (fails_any n7 _ 134 _ _ 6 103 cut_dec hcut (fun x hx => hd1_rng x (List.mem_of_mem_take hx)) (by decide))
  clear hcut
  refine sC (R := fun w' => Below n7.heap.size n7 w') (v := .bool true) (by kernel_rfl) (by kernel_rfl) HF.out ?_
  rintro n8 hb
  simp only [Act.put, List.setIfInBounds_toArray, List.set_cons_succ, List.set_cons_zero]
  have N6 := WirS.hide (N5.out.more hb)
  have HLOW' := WirS.hide (HLOW.out.below hb)
  clear hb N5 HLOW
  have HLOW := HLOW'
  clear HLOW'
  clear HF
  refine sV (.bool true) (n8) (by kernel_rfl) (by kernel_rfl) ?_
  simp only [Act.put, List.setIfInBounds_toArray, List.set_cons_succ, List.set_cons_zero]
  refine sV (.bool true) (n8) (by kernel_rfl) (by kernel_rfl) ?_
  simp only [Act.put, List.setIfInBounds_toArray, List.set_cons_succ, List.set_cons_zero]
  refine sV (.slice va 135 vc) (n8) (by kernel_rfl) (by kernel_rfl) ?_
  simp only [Act.put, List.setIfInBounds_toArray, List.set_cons_succ, List.set_cons_zero]
  have HC := WirS.hide (KitC.copy_any n8 va 135 vc (hform hd1) (N6.out.drop.drop.drop.head : WirM.Own _ _ _ _).bin (by decide))
  refine sCx (by kernel_rfl) (by kernel_rfl) HC.out ?_
  rintro e n9 ⟨ca, cn, cc, rfl, ho, hnw, hb⟩
  refine ⟨_, rfl, ?_⟩
  simp only [Act.put, List.setIfInBounds_toArray, List.set_cons_succ, List.set_cons_zero]
  obtain ⟨rfl, _⟩ := own135 ho
  have HHB := WirS.hide hb
  have HNW := WirS.hide hnw
  have HOC := WirS.hide ho
  clear ho hnw hb HC
  refine sV (.slice (some ⟨n9.heap.size, 0, none⟩) 1 1) (n9.alloc (.cells (b8 [0]).toArray 5)) (by kernel_rfl) (by kernel_rfl) ?_
  simp only [Act.put, List.setIfInBounds_toArray, List.set_cons_succ, List.set_cons_zero]
  have hal : Below n9.heap.size n9 (n9.alloc (.cells (b8 [0]).toArray 5)) := Below.alloc (Below.refl _ _) (Nat.le_refl _) _
  obtain ⟨i0, hi, hz0, hz1, hz2⟩ := info_parts (show (Tryd.prog.info? 5).map (fun i => (i.zero, i.size, i.bytes)) = some (some (.int .u8 0), 1, 1) by kernel_rfl)
  obtain ⟨v1, q1, r1, o1, f1, nn1⟩ := app_any (P := Tryd.prog) (n9.alloc (.cells (b8 [0]).toArray 5)) 22 22 22 5 i0 _ Tryd.underlying22 hi hz0 hz1 hz2 rfl (.slice ca 135 cc) (.slice (some ⟨n9.heap.size, 0, none⟩) 1 1) (hform hd1) [0] (HOC.out.fr (X := fun _ => False) (Fr.of_below hal) (fun _ _ h => h)) ((BIn.new n9 5 [0] 1 1 (0, 0) (by decide) (by decide)).src Tryd.underlying22) (by rw [hd1_len]; decide)
  have hlow' := ValDD.bin_keep HLOW.out ((HLOW.out.below HHB.out).below hal) f1 (fun k hk => HNW.out k hk)
  have hB1 : Below n8.heap.size n8 q1 := (HHB.out.trans (hal.mono HHB.out.size)).trans (f1.below (B := n8.heap.size) (by have := HHB.out.size; simp; omega) (fun k hk hx => by have := HNW.out k hx; omega))
  have N7 := WirS.hide (N6.out.more hB1)
  obtain ⟨xa, xc, rfl⟩ : ∃ xa xc, v1 = .slice xa 136 xc := by
    obtain ⟨xa, xc, e, _⟩ := o1.bin
    rw [List.length_append, hd1_len] at e
    exact ⟨xa, xc, e⟩
  have HF := WirS.hide (fails_any q1 xa 136 xc _ 4 135 more_dec o1.bin (fun x hx => by
    rcases List.mem_append.1 hx with hx | hx
    · exact hd1_rng x hx
    · simp at hx; omega) (by decide))
  refine sA (by kernel_rfl) 22 22 _ _ (by rfl) (.slice ca 135 cc) (.slice (some ⟨n9.heap.size, 0, none⟩) 1 1) (by kernel_rfl) (by kernel_rfl) (.slice xa 136 xc) (q1) r1 ?_
  simp only [Act.put, List.setIfInBounds_toArray, List.set_cons_succ, List.set_cons_zero]
  clear HLOW HHB HNW HOC r1 o1 f1 nn1 hal hB1 hi hz0 hz1 hz2 N6
  have HLOW := WirS.hide hlow'
  clear hlow'
  refine sC (R := fun w' => Below q1.heap.size q1 w') (v := .bool true) (by kernel_rfl) (by kernel_rfl) HF.out ?_
  rintro q2 hb
  simp only [Act.put, List.setIfInBounds_toArray, List.set_cons_succ, List.set_cons_zero]
  have N8 := WirS.hide (N7.out.more hb)
  have HLOW' := WirS.hide (HLOW.out.below hb)
  clear hb N7 HLOW
  have HLOW := HLOW'
  clear HLOW'
  clear HF
  refine sV (.bool true) (q2) (by kernel_rfl) (by kernel_rfl) ?_
  simp only [Act.put, List.setIfInBounds_toArray, List.set_cons_succ, List.set_cons_zero]
  refine sV (.bool true) (q2) (by kernel_rfl) (by kernel_rfl) ?_
  simp only [Act.put, List.setIfInBounds_toArray, List.set_cons_succ, List.set_cons_zero]
  refine sV (.slice (some ⟨P8, 0, none⟩) 134 cap) (q2) (by kernel_rfl) (by kernel_rfl) ?_
  simp only [Act.put, List.setIfInBounds_toArray, List.set_cons_succ, List.set_cons_zero]
  have HF := WirS.hide (fails_any q2 _ 134 cap _ 3 0 low_dec HLOW.out (by intro x hx; simp [low, low6] at hx; omega) (by decide))
  refine sC (R := fun w' => Below q2.heap.size q2 w') (v := .bool true) (by kernel_rfl) (by kernel_rfl) HF.out ?_
  rintro q3 hb
  simp only [Act.put, List.setIfInBounds_toArray, List.set_cons_succ, List.set_cons_zero]
  have N9 := WirS.hide (N8.out.more hb)
  have HLOW' := WirS.hide (HLOW.out.below hb)
  clear hb N8 HLOW
  have HLOW := HLOW'
  clear HLOW'
  refine sV (.bool true) (q3) (by kernel_rfl) (by kernel_rfl) ?_
  simp only [Act.put, List.setIfInBounds_toArray, List.set_cons_succ, List.set_cons_zero]
  go_wp2_with fail
  go_ret
  exact ⟨rfl, N9.out.low⟩
end HdN
end Go.Proofs.YtfmegeibnjmfpaaDoor

