/-
  What the statements ask of the chapter's examples: awake.
-/
import Derived.Test.YtfmegeibnjmfpaaDoorBlkQ
namespace Go.Proofs.YtfmegeibnjmfpaaDoor
namespace BlkR
open Go.RowKit
open BlkM BlkA BlkG BlkI BlkJ BlkK BlkL BlkO BlkP BlkQ

theorem range_of {W w' : World} {H : Nat} {T : TypeId} {cs : List Value} (hA : At W H T cs) (hb : Below W.heap.size W w') : w'.rangeAt H 0 cs := fun j v hj => by
  rw [(hA.below hb hA.lt).cell, Nat.zero_add]
  exact hj
/-- '[]byte("..")': the bytes' block is marked. -/
theorem mark (u : World) (C : Array Value) (n c : Nat) : (convert 22 22 (.slice (some ⟨u.heap.size, 0, none⟩) n c)).run Tryd.prog (u.alloc (.cells C 5)) = .ok (.slice (some ⟨u.heap.size, 0, none⟩) n c) (u.alloc (.cells C 5 (C.size, C.size + 1))) := by
  have hsh : (u.alloc (.cells C 5)).shape? u.heap.size = some (5, C.size) := by
    have : (u.alloc (.cells C 5)).heap[u.heap.size]? = some (.cells C 5) := by
      show (u.heap.push (.cells C 5))[u.heap.size]? = _
      simp
    unfold World.shape?
    rw [this]
  have hfr : (u.alloc (.cells C 5)).freeze ⟨u.heap.size, C.size, none⟩ 1 = u.alloc (.cells C 5 (C.size, C.size + 1)) := by
    have hm : ∀ (a : Array Obj) (x : Obj) (f : Obj → Obj), (a.push x).modify a.size f = a.push (f x) := by
      intro a x f
      apply Array.ext
      · simp
      · intro i h1 h2
        simp only [Array.getElem_modify, Array.getElem_push]
        by_cases h : a.size = i
        · subst h
          simp
        · have hi : i < a.size := by simp at h1; omega
          simp [h, hi]
    unfold World.freeze
    rw [if_neg (by decide)]
    show ({ u.alloc (.cells C 5) with heap := (u.heap.push (.cells C 5)).modify u.heap.size _ } : World) = _
    rw [hm]
    rfl
  simp [convert, run_underlying Tryd.underlying22, run_underlying Tryd.underlying5, markStringish, hsh, hfr]
theorem bin_new (u : World) (l : List Int) (fr : Nat × Nat) : BIn (u.alloc (.cells (b8 l).toArray 5 fr)) (.slice (some ⟨u.heap.size, 0, none⟩) l.length l.length) l :=
  ⟨_, l.length, rfl, Nat.le_refl _, fun _ => ⟨u.heap.size, 0, rfl, by simp, fun i hi => by
    have : (u.alloc (.cells (b8 l).toArray 5 fr)).heap[u.heap.size]? = some (.cells (b8 l).toArray 5 fr) := by
      show (u.heap.push _)[u.heap.size]? = _
      simp
    have h2 := b8_get l i hi
    simp only [World.cell?, this, Nat.zero_add]
    simpa using h2⟩⟩
theorem bin_abc (u : World) : BIn (u.alloc (.cells #[.int .u8 97, .int .u8 98, .int .u8 99] 5 (3, 4))) (.slice (some ⟨u.heap.size, 0, none⟩) 3 3) [97, 98, 99] := bin_new u [97, 98, 99] (3, 4)
theorem rng_abc : rng [97, 98, 99] := by
  intro x hx
  simp at hx
  omega
theorem alH (a : Operand → Value) (o : Oper) (ho : o.op = Op.alloc 26) (W : World) : (execOp a o).run Tryd.prog W = .ok (.value (.pointer (some ⟨W.heap.size, 0, none⟩))) (W.alloc (.cells (b8 zH).toArray 26)) := by
  unfold execOp
  rw [ho]
  kernel_rfl
set_option maxRecDepth 10000 in
set_option maxHeartbeats 4000000 in
theorem awake_any (w : World) (hg : Glob w) : Calls Tryd.prog 11 #[] w fun e w' => e = .returned (.bool true) ∧ Below w.heap.size w w' := by
  have hR := hide (read_any w ⟨#[53, 48, 56, 99, 53, 101, 56, 99, 51, 50, 55, 99, 49, 52, 101, 50, 101, 49, 97, 55, 50, 98, 97, 51, 52, 101, 101, 98, 52, 53, 50, 102, 51, 55, 52, 53, 56, 98, 50, 48, 57, 101, 100, 54, 51, 97, 50, 57, 52, 100, 57, 57, 57, 98, 52, 99, 56, 54, 54, 55, 53, 57, 56, 50]⟩ (.tuple #[.agg (b8 (sumL [97, 98, 99])).toArray, .int .i64 0]) (fun _ => by rw [tOk, abc_read]) (fun h => absurd abc_ok h))
  obtain ⟨X0, hX0⟩ : ∃ X, X = sumL [] := ⟨_, rfl⟩
  obtain ⟨X1, hX1⟩ : ∃ X, X = sumL [97, 98, 99] := ⟨_, rfl⟩
  have l0 : X0.length = 32 := by rw [hX0]; exact sumL_len _
  have l1 : X1.length = 32 := by rw [hX1]; exact sumL_len _
  have T0 := hide (fun W => text_any W X0 l0 (by rw [hX0]; exact sumL_range _))
  have T1 := hide (fun W => text_any W X1 l1 (by rw [hX1]; exact sumL_range _))
  rw [show hashText X0 = ⟨#[54, 57, 50, 49, 55, 97, 51, 48, 55, 57, 57, 48, 56, 48, 57, 52, 101, 49, 49, 49, 50, 49, 100, 48, 52, 50, 51, 53, 52, 97, 55, 99, 49, 102, 53, 53, 98, 54, 52, 56, 50, 99, 97, 49, 97, 53, 49, 101, 49, 98, 50, 53, 48, 100, 102, 100, 49, 101, 100, 48, 101, 101, 102, 57]⟩ by rw [hX0]; exact none_text] at T0
  rw [show hashText X1 = ⟨#[53, 48, 56, 99, 53, 101, 56, 99, 51, 50, 55, 99, 49, 52, 101, 50, 101, 49, 97, 55, 50, 98, 97, 51, 52, 101, 101, 98, 52, 53, 50, 102, 51, 55, 52, 53, 56, 98, 50, 48, 57, 101, 100, 54, 51, 97, 50, 57, 52, 100, 57, 57, 57, 98, 52, 99, 56, 54, 54, 55, 53, 57, 56, 50]⟩ by rw [hX1]; exact abc_text] at T1
  have S0 := hide (fun W (k : Glob W) => sumP_any W (.slice none 0 0) [] (BIn.nil W) (fun x hx => absurd hx (by simp)) k (by simp))
  have S1 := hide (fun W v (k : Glob W) (h : BIn W v [97, 98, 99]) => sumP_any W v [97, 98, 99] h rng_abc k (by simp))
  rw [← hX0] at S0
  rw [← hX1] at hR S1
  have heq := fun W => eqH X1 X1 l1 l1 W
  rw [decide_eq_true (rfl : X1 = X1)] at heq
  have HL1 := hide (show (b8 X1).length = 32 by rw [b8_len]; exact l1)
  have HG := hide hg
  clear hX0 hX1 l0 l1 hg
  go_enter Tryd.func11, Tryd.ntmps11
  go_upto_region 1 with (fail)
  refine wp_region_lit ?_
  refine stepCall (by rfl) (by kernel_rfl) hR.out ?_
  intro w1 hb1
  refine stepVal (v := .tuple #[.agg (b8 X1).toArray, .int .i64 0]) (w' := w1) (by rfl) (by kernel_rfl) ?_
  refine stepVal (v := .agg (b8 X1).toArray) (w' := w1) (by rfl) (by kernel_rfl) ?_
  refine stepVal (v := .int .i64 0) (w' := w1) (by rfl) (by kernel_rfl) ?_
  refine stepVal (v := .pointer (some ⟨w1.heap.size, 0, none⟩)) (w' := w1.alloc (.cells (b8 zH).toArray 26)) (by rfl) (alH _ _ rfl w1) ?_
  refine stepStore (by rfl) _ _ _ (by rfl) _ (b8 X1) (by rfl) (by rfl) (At.new w1 26 (b8 zH)) 32 (by kernel_rfl) (by rw [b8_len]; rfl) HL1.out (oneCells_b8 _) ?_
  obtain ⟨W, eW⟩ : ∃ X, X = (w1.alloc (.cells (b8 zH).toArray 26)).setRow w1.heap.size (b8 X1).toArray := ⟨_, rfl⟩
  rw [← eW]
  have hA : At W w1.heap.size 26 (b8 X1) := by rw [eW]; exact (At.new w1 26 (b8 zH)).put _
  have hB : Below w.heap.size w W := by rw [eW]; exact hb1.trans ((Below.setRowOwn (Below.alloc (Below.refl _ _) (Nat.le_refl _) _) (Nat.le_refl w1.heap.size) _).mono hb1.size)
  obtain ⟨H, eH⟩ : ∃ H, H = w1.heap.size := ⟨_, rfl⟩
  rw [← eH] at hA ⊢
  have GL := hide (fun w' (k : Below W.heap.size W w') => (HG.out.below hB HG.out.1).below k (by have := hA.lt; omega))
  have HA := hide hA
  have HB := hide hB
  clear eW hA hB hb1 eH
  go_wp2_with fail
  have hu := Tryd.underlying26
  have hi : (Tryd.prog.info? 26).map (·.size) = some (b8 X1).length := by rw [HL1.out]; kernel_rfl
  have hone : ∀ v ∈ b8 X1, v.oneCell' = true := fun v hv => by
    obtain ⟨x, _, rfl⟩ := List.mem_map.1 (show v ∈ X1.map (Value.int .u8) from hv)
    rfl
  have hl32 := HL1.out
  have hcv : ∀ u : World, _ := fun u => mark u #[.int .u8 97, .int .u8 98, .int .u8 99] 3 3
  simp only [List.size_toArray, List.length_cons, List.length_nil] at hcv
  refine wp_region_noPanic ?_
  refine wp_region_held_drew (S := fun w' => w'.rangeAt H 0 (b8 X1) ∧ Below W.heap.size W w') (by kernel_rfl) ?_ (fun hHeld => ?_)
  · (refine ⟨range_of HA.out ?_, ?_⟩ <;> exact (by repeat' (first | with_reducible assumption | with_reducible exact Below.refl _ _ | with_reducible refine Below.setCell ?_ ?_ _ | with_reducible refine below_drewN ?_ _ | with_reducible refine Below.drew ?_ | with_reducible refine Below.alloc ?_ ?_ _ | with_reducible refine Below.trans ?_ (Below.mono (by with_reducible assumption) ?_) | omega | (simp; done) | (simp; omega))))
  refine wpAnyH_ready (rs := [0]) (by kernel_rfl) (by simp) ?_
  refine AllReadyH.cons rfl (fun K hK => ?_) AllReadyH.nil
  go_simp
  refine (S0.out _ (GL.out _ (by repeat' (first | with_reducible assumption | with_reducible exact Below.refl _ _ | with_reducible refine Below.setCell ?_ ?_ _ | with_reducible refine below_drewN ?_ _ | with_reducible refine Below.drew ?_ | with_reducible refine Below.alloc ?_ ?_ _ | with_reducible refine Below.trans ?_ (Below.mono (by with_reducible assumption) ?_) | omega | (simp; done) | (simp; omega))))).mono ?_
  rintro e u1 ⟨rfl, hu⟩
  (have hB := Below.trans (B := W.heap.size) (a := W) (b := _) (c := u1) (by repeat' (first | with_reducible assumption | with_reducible exact Below.refl _ _ | with_reducible refine Below.setCell ?_ ?_ _ | with_reducible refine below_drewN ?_ _ | with_reducible refine Below.drew ?_ | with_reducible refine Below.alloc ?_ ?_ _ | with_reducible refine Below.trans ?_ (Below.mono (by with_reducible assumption) ?_) | omega | (simp; done) | (simp; omega))) (hu.mono (by first | omega | (simp; done) | (simp; omega))); have := Below.size hB; clear hu)
  refine hK.out _ _ ?_ (fun hHeld => ?_)
  · (refine ⟨range_of HA.out ?_, ?_⟩ <;> exact (by repeat' (first | with_reducible assumption | with_reducible exact Below.refl _ _ | with_reducible refine Below.setCell ?_ ?_ _ | with_reducible refine below_drewN ?_ _ | with_reducible refine Below.drew ?_ | with_reducible refine Below.alloc ?_ ?_ _ | with_reducible refine Below.trans ?_ (Below.mono (by with_reducible assumption) ?_) | omega | (simp; done) | (simp; omega))))
  clear hK K
  try simp only [Act.put, List.setIfInBounds_toArray, List.set_cons_zero, List.set_cons_succ]
  refine wpAnyH_ready (rs := [1]) (by kernel_rfl) (by simp) ?_
  refine AllReadyH.cons rfl (fun K hK => ?_) AllReadyH.nil
  go_simp
  refine (T0.out _).mono ?_
  rintro e u2 ⟨rfl, hu⟩
  (have hB := Below.trans (B := W.heap.size) (a := W) (b := _) (c := u2) (by repeat' (first | with_reducible assumption | with_reducible exact Below.refl _ _ | with_reducible refine Below.setCell ?_ ?_ _ | with_reducible refine below_drewN ?_ _ | with_reducible refine Below.drew ?_ | with_reducible refine Below.alloc ?_ ?_ _ | with_reducible refine Below.trans ?_ (Below.mono (by with_reducible assumption) ?_) | omega | (simp; done) | (simp; omega))) (hu.mono (by first | omega | (simp; done) | (simp; omega))); have := Below.size hB; clear hu)
  refine hK.out _ _ ?_ (fun hHeld => ?_)
  · (refine ⟨range_of HA.out ?_, ?_⟩ <;> exact (by repeat' (first | with_reducible assumption | with_reducible exact Below.refl _ _ | with_reducible refine Below.setCell ?_ ?_ _ | with_reducible refine below_drewN ?_ _ | with_reducible refine Below.drew ?_ | with_reducible refine Below.alloc ?_ ?_ _ | with_reducible refine Below.trans ?_ (Below.mono (by with_reducible assumption) ?_) | omega | (simp; done) | (simp; omega))))
  clear hK K
  try simp only [Act.put, List.setIfInBounds_toArray, List.set_cons_zero, List.set_cons_succ]
  refine' wpAnyH_take (i := 2) (oi := _) (v := _) rfl (by kernel_rfl) (by kernel_rfl) (by kernel_rfl) (fun _ _ _ h => h) (Or.inl ⟨by rfl, ?hy⟩) (by assumption) ?rest
  case hy =>
    intro w hSw
    try dsimp only at hSw
    go_simp
    try with_reducible rfl
  case rest =>
  try simp only [Act.put, List.setIfInBounds_toArray]
  refine' wpAnyH_take (i := 3) (oi := _) (v := _) rfl (by kernel_rfl) (by kernel_rfl) (by kernel_rfl) (fun _ _ _ h => h) (Or.inl ⟨by rfl, ?hy⟩) (by assumption) ?rest
  case hy =>
    intro w hSw
    try dsimp only at hSw
    go_simp
    try with_reducible rfl
  case rest =>
  try simp only [Act.put]
  refine wpAnyH_ready (rs := [4]) (by kernel_rfl) (by simp) ?_
  refine AllReadyH.cons rfl (fun K hK => ?_) AllReadyH.nil
  go_simp
  refine hK.out _ _ ?_ (fun hHeld => ?_)
  · (refine ⟨range_of HA.out ?_, ?_⟩ <;> exact (by repeat' (first | with_reducible assumption | with_reducible exact Below.refl _ _ | with_reducible refine Below.setCell ?_ ?_ _ | with_reducible refine below_drewN ?_ _ | with_reducible refine Below.drew ?_ | with_reducible refine Below.alloc ?_ ?_ _ | with_reducible refine Below.trans ?_ (Below.mono (by with_reducible assumption) ?_) | omega | (simp; done) | (simp; omega))))
  clear hK K
  try simp only [Act.put, List.setIfInBounds_toArray, List.set_cons_zero, List.set_cons_succ]
  refine wpAnyH_ready (rs := [5]) (by kernel_rfl) (by simp) ?_
  refine AllReadyH.cons rfl (fun K hK => ?_) AllReadyH.nil
  go_simp
  refine hK.out _ _ ?_ (fun hHeld => ?_)
  · (refine ⟨range_of HA.out ?_, ?_⟩ <;> exact (by repeat' (first | with_reducible assumption | with_reducible exact Below.refl _ _ | with_reducible refine Below.setCell ?_ ?_ _ | with_reducible refine below_drewN ?_ _ | with_reducible refine Below.drew ?_ | with_reducible refine Below.alloc ?_ ?_ _ | with_reducible refine Below.trans ?_ (Below.mono (by with_reducible assumption) ?_) | omega | (simp; done) | (simp; omega))))
  clear hK K
  try simp only [Act.put, List.setIfInBounds_toArray, List.set_cons_zero, List.set_cons_succ]
  refine wpAnyH_ready (rs := [6]) (by kernel_rfl) (by simp) ?_
  refine AllReadyH.cons rfl (fun K hK => ?_) AllReadyH.nil
  go_simp
  refine (S1.out _ _ (GL.out _ (by repeat' (first | with_reducible assumption | with_reducible exact Below.refl _ _ | with_reducible refine Below.setCell ?_ ?_ _ | with_reducible refine below_drewN ?_ _ | with_reducible refine Below.drew ?_ | with_reducible refine Below.alloc ?_ ?_ _ | with_reducible refine Below.trans ?_ (Below.mono (by with_reducible assumption) ?_) | omega | (simp; done) | (simp; omega)))) (bin_abc _)).mono ?_
  rintro e u3 ⟨rfl, hu⟩
  (have hB := Below.trans (B := W.heap.size) (a := W) (b := _) (c := u3) (by repeat' (first | with_reducible assumption | with_reducible exact Below.refl _ _ | with_reducible refine Below.setCell ?_ ?_ _ | with_reducible refine below_drewN ?_ _ | with_reducible refine Below.drew ?_ | with_reducible refine Below.alloc ?_ ?_ _ | with_reducible refine Below.trans ?_ (Below.mono (by with_reducible assumption) ?_) | omega | (simp; done) | (simp; omega))) (hu.mono (by first | omega | (simp; done) | (simp; omega))); have := Below.size hB; clear hu)
  refine hK.out _ _ ?_ (fun hHeld => ?_)
  · (refine ⟨range_of HA.out ?_, ?_⟩ <;> exact (by repeat' (first | with_reducible assumption | with_reducible exact Below.refl _ _ | with_reducible refine Below.setCell ?_ ?_ _ | with_reducible refine below_drewN ?_ _ | with_reducible refine Below.drew ?_ | with_reducible refine Below.alloc ?_ ?_ _ | with_reducible refine Below.trans ?_ (Below.mono (by with_reducible assumption) ?_) | omega | (simp; done) | (simp; omega))))
  clear hK K
  try simp only [Act.put, List.setIfInBounds_toArray, List.set_cons_zero, List.set_cons_succ]
  refine wpAnyH_ready (rs := [7]) (by kernel_rfl) (by simp) ?_
  refine AllReadyH.cons rfl (fun K hK => ?_) AllReadyH.nil
  go_simp
  refine (T1.out _).mono ?_
  rintro e u4 ⟨rfl, hu⟩
  (have hB := Below.trans (B := W.heap.size) (a := W) (b := _) (c := u4) (by repeat' (first | with_reducible assumption | with_reducible exact Below.refl _ _ | with_reducible refine Below.setCell ?_ ?_ _ | with_reducible refine below_drewN ?_ _ | with_reducible refine Below.drew ?_ | with_reducible refine Below.alloc ?_ ?_ _ | with_reducible refine Below.trans ?_ (Below.mono (by with_reducible assumption) ?_) | omega | (simp; done) | (simp; omega))) (hu.mono (by first | omega | (simp; done) | (simp; omega))); have := Below.size hB; clear hu)
  refine hK.out _ _ ?_ (fun hHeld => ?_)
  · (refine ⟨range_of HA.out ?_, ?_⟩ <;> exact (by repeat' (first | with_reducible assumption | with_reducible exact Below.refl _ _ | with_reducible refine Below.setCell ?_ ?_ _ | with_reducible refine below_drewN ?_ _ | with_reducible refine Below.drew ?_ | with_reducible refine Below.alloc ?_ ?_ _ | with_reducible refine Below.trans ?_ (Below.mono (by with_reducible assumption) ?_) | omega | (simp; done) | (simp; omega))))
  clear hK K
  try simp only [Act.put, List.setIfInBounds_toArray, List.set_cons_zero, List.set_cons_succ]
  refine' wpAnyH_take (i := 8) (oi := _) (v := _) rfl (by kernel_rfl) (by kernel_rfl) (by kernel_rfl) (fun _ _ _ h => h) (Or.inl ⟨by rfl, ?hy⟩) (by assumption) ?rest
  case hy =>
    intro w hSw
    try dsimp only at hSw
    go_simp
    try with_reducible rfl
  case rest =>
  try simp only [Act.put, List.setIfInBounds_toArray]
  refine' wpAnyH_take (i := 9) (oi := _) (v := _) rfl (by kernel_rfl) (by kernel_rfl) (by kernel_rfl) (fun _ _ _ h => h) (Or.inl ⟨by rfl, ?hy⟩) (by assumption) ?rest
  case hy =>
    intro w hSw
    try dsimp only at hSw
    go_simp
    try with_reducible rfl
  case rest =>
  try simp only [Act.put]
  refine' wpAnyH_take (i := 10) (oi := _) (v := _) rfl (by kernel_rfl) (by kernel_rfl) (by kernel_rfl) (fun _ _ _ h => h) (Or.inl ⟨by rfl, ?hy⟩) (by assumption) ?rest
  case hy =>
    intro w hSw
    try dsimp only at hSw
    go_simp
    try with_reducible rfl
  case rest =>
  try simp only [Act.put]
  refine' wpAnyH_take (i := 11) (oi := _) (v := _) rfl (by kernel_rfl) (by kernel_rfl) (by kernel_rfl) (fun _ _ _ h => h) (yieldsIf_load_mid (by rfl) _ _ rfl _ _ rfl _ _ ?hS ?hu ?hd ?hi) (by assumption) ?rest
  case hS =>
    intro w hSw
    try dsimp only at hSw
    go_split_ands
    assumption
  case hu => assumption
  case hd => rfl
  case hi => first | assumption | (simp only [*]; done)
  case rest =>
  try simp only [Act.put]
  refine wpAnyH_ready (rs := [12]) (by kernel_rfl) (by simp) ?_
  refine AllReadyH.cons rfl (fun K hK => ?_) AllReadyH.nil
  go_simp
  refine hK.out _ _ ?_ (fun hHeld => ?_)
  · (refine ⟨range_of HA.out ?_, ?_⟩ <;> exact (by repeat' (first | with_reducible assumption | with_reducible exact Below.refl _ _ | with_reducible refine Below.setCell ?_ ?_ _ | with_reducible refine below_drewN ?_ _ | with_reducible refine Below.drew ?_ | with_reducible refine Below.alloc ?_ ?_ _ | with_reducible refine Below.trans ?_ (Below.mono (by with_reducible assumption) ?_) | omega | (simp; done) | (simp; omega))))
  clear hK K
  try simp only [Act.put, List.setIfInBounds_toArray, List.set_cons_zero, List.set_cons_succ]
  refine wpAnyH_ready (rs := [13]) (by kernel_rfl) (by simp) ?_
  refine AllReadyH.cons rfl (fun K hK => ?_) AllReadyH.nil
  go_simp
  refine hK.out _ _ ?_ (fun hHeld => ?_)
  · (refine ⟨range_of HA.out ?_, ?_⟩ <;> exact (by repeat' (first | with_reducible assumption | with_reducible exact Below.refl _ _ | with_reducible refine Below.setCell ?_ ?_ _ | with_reducible refine below_drewN ?_ _ | with_reducible refine Below.drew ?_ | with_reducible refine Below.alloc ?_ ?_ _ | with_reducible refine Below.trans ?_ (Below.mono (by with_reducible assumption) ?_) | omega | (simp; done) | (simp; omega))))
  clear hK K
  try simp only [Act.put, List.setIfInBounds_toArray, List.set_cons_zero, List.set_cons_succ]
  refine wpAnyH_ready (rs := [14]) (by kernel_rfl) (by simp) ?_
  refine AllReadyH.cons rfl (fun K hK => ?_) AllReadyH.nil
  go_simp
  refine (S1.out _ _ (GL.out _ (by repeat' (first | with_reducible assumption | with_reducible exact Below.refl _ _ | with_reducible refine Below.setCell ?_ ?_ _ | with_reducible refine below_drewN ?_ _ | with_reducible refine Below.drew ?_ | with_reducible refine Below.alloc ?_ ?_ _ | with_reducible refine Below.trans ?_ (Below.mono (by with_reducible assumption) ?_) | omega | (simp; done) | (simp; omega)))) (bin_abc _)).mono ?_
  rintro e u5 ⟨rfl, hu⟩
  (have hB := Below.trans (B := W.heap.size) (a := W) (b := _) (c := u5) (by repeat' (first | with_reducible assumption | with_reducible exact Below.refl _ _ | with_reducible refine Below.setCell ?_ ?_ _ | with_reducible refine below_drewN ?_ _ | with_reducible refine Below.drew ?_ | with_reducible refine Below.alloc ?_ ?_ _ | with_reducible refine Below.trans ?_ (Below.mono (by with_reducible assumption) ?_) | omega | (simp; done) | (simp; omega))) (hu.mono (by first | omega | (simp; done) | (simp; omega))); have := Below.size hB; clear hu)
  refine hK.out _ _ ?_ (fun hHeld => ?_)
  · (refine ⟨range_of HA.out ?_, ?_⟩ <;> exact (by repeat' (first | with_reducible assumption | with_reducible exact Below.refl _ _ | with_reducible refine Below.setCell ?_ ?_ _ | with_reducible refine below_drewN ?_ _ | with_reducible refine Below.drew ?_ | with_reducible refine Below.alloc ?_ ?_ _ | with_reducible refine Below.trans ?_ (Below.mono (by with_reducible assumption) ?_) | omega | (simp; done) | (simp; omega))))
  clear hK K
  try simp only [Act.put, List.setIfInBounds_toArray, List.set_cons_zero, List.set_cons_succ]
  refine' wpAnyH_take (i := 15) (oi := _) (v := _) rfl (by kernel_rfl) (by kernel_rfl) (by kernel_rfl) (fun _ _ _ h => h) (Or.inl ⟨by rfl, ?hy⟩) (by assumption) ?rest
  case hy =>
    intro w hSw
    try dsimp only at hSw
    go_simp
    try with_reducible rfl
  case rest =>
  try simp only [Act.put, List.setIfInBounds_toArray]
  refine' wpAnyH_take (i := 16) (oi := _) (v := _) rfl (by kernel_rfl) (by kernel_rfl) (by kernel_rfl) (fun _ _ _ h => h) (Or.inl ⟨by rfl, ?hy⟩) (by assumption) ?rest
  case hy =>
    intro w hSw
    try dsimp only at hSw
    go_simp
    try with_reducible rfl
  case rest =>
  try simp only [Act.put]
  refine' wpAnyH_take (i := 17) (oi := _) (v := _) rfl (by kernel_rfl) (by kernel_rfl) (by kernel_rfl) (fun _ _ _ h => h) (Or.inl ⟨by rfl, ?hy⟩) (by assumption) ?rest
  case hy =>
    intro w hSw
    try dsimp only at hSw
    go_simp
    try with_reducible rfl
  case rest =>
  try simp only [Act.put]
  refine' wpAnyH_take (i := 18) (oi := _) (v := _) rfl (by kernel_rfl) (by kernel_rfl) (by kernel_rfl) (fun _ _ _ h => h) (Or.inl ⟨by rfl, ?hy⟩) (by assumption) ?rest
  case hy =>
    intro w hSw
    try dsimp only at hSw
    go_simp
    try with_reducible rfl
  case rest =>
  try simp only [Act.put]
  refine' wpAnyH_take (i := 19) (oi := _) (v := _) rfl (by kernel_rfl) (by kernel_rfl) (by kernel_rfl) (fun _ _ _ h => h) (Or.inl ⟨by rfl, ?hy⟩) (by assumption) ?rest
  case hy =>
    intro w hSw
    try dsimp only at hSw
    go_simp
    try with_reducible rfl
  case rest =>
  try simp only [Act.put]
  refine' wpAnyH_take (i := 20) (oi := _) (v := _) rfl (by kernel_rfl) (by kernel_rfl) (by kernel_rfl) (fun _ _ _ h => h) (Or.inl ⟨by rfl, ?hy⟩) (by assumption) ?rest
  case hy =>
    intro w hSw
    try dsimp only at hSw
    go_simp
    try with_reducible rfl
  case rest =>
  try simp only [List.getElem_toArray, List.getElem_cons_succ, List.getElem_cons_zero, Act.put, List.setIfInBounds_toArray, List.set_cons_zero, List.set_cons_succ]
  refine' wpAnyH_take (i := 21) (oi := _) (v := _) rfl (by kernel_rfl) (by kernel_rfl) (by kernel_rfl) (fun _ _ _ h => h) (Or.inl ⟨by rfl, ?hy⟩) (by assumption) ?rest
  case hy =>
    intro w hSw
    try dsimp only at hSw
    go_simp
    try with_reducible rfl
  case rest =>
  try simp only [List.getElem_toArray, List.getElem_cons_succ, List.getElem_cons_zero, Act.put, List.setIfInBounds_toArray, List.set_cons_zero]
  refine wpAnyH_done (by kernel_rfl) ?_ _
  refine NoPanic.normal ?_
  go_wp2
  go_ret
  exact ⟨rfl, Below.trans HB.out (Below.mono (by with_reducible assumption) HB.out.size)⟩
end BlkR
end Go.Proofs.YtfmegeibnjmfpaaDoor
