/-
  The document's Sum.
-/
import Derived.Test.YtpambhlhkmkagaaGreatDoorBlkSd
import Derived.Test.YtpambhlhkmkagaaGreatDoorPvI
namespace Go.Proofs.YtpambhlhkmkagaaGreatDoor
namespace BlkSe
open Go.RowKit
open BlkM WirM WirS BlkSa BlkSp BlkSq BlkSd
open WirE (NewB)
open WirX (Thg Bag own bag_own)
open WirAA (box bag_box bag_set)
open WirH (sa bin_sub slR)

abbrev TB : TypeId := 35
abbrev T32 : TypeId := 39
theorem bag_app {w0 w : World} {l : List Thg} {v s : Value} {zs news : List Int} (h : Bag w0 w (own v zs :: l)) (hs : BIn w s news) (hl : zs.length + news.length ≤ 1099511627776) :
    ∃ a m c w', m = (zs ++ news).length ∧ (Builtin.append_ #[TB, TB] TB #[v, s]).run Tryz.prog w = .ok (.slice a m c) w' ∧ Bag w0 w' (own (.slice a m c) (zs ++ news) :: l) := by
  obtain ⟨i0, hi, hz0, hz1, hz2⟩ := info_parts (show (Tryz.prog.info? 5).map (fun i => (i.zero, i.size, i.bytes)) = some (some (.int .u8 0), 1, 1) by kernel_rfl)
  obtain ⟨v1, u1, r1, o1, f1, n1⟩ := app_any (P := Tryz.prog) w TB TB TB 5 i0 _ Tryz.underlying35 hi hz0 hz1 hz2 rfl v s zs news h.head (hs.src Tryz.underlying35) hl
  obtain ⟨a, c, rfl⟩ := WirB.len_of o1
  exact ⟨a, _, c, u1, rfl, r1, h.act f1 o1 (fun k hk => n1 k hk)⟩
theorem own_zero (U : World) : WirM.Own (U.alloc (.cells #[] 5)) 5 (.slice (some ⟨U.heap.size, 0, none⟩) 0 0) [] := World.ownsRow_made U #[] 0 (Nat.zero_le _) (Nat.zero_le _) (by simp)
theorem bin_one (U : World) (x : Int) : BIn (U.alloc (.cells #[.int .u8 x] 5)) (.slice (some ⟨U.heap.size, 0, none⟩) 1 1) [x] := BIn.new U 5 [x] 1 1 (0, 0) (Nat.le_refl _) (Nat.le_refl _)
theorem dh_len (b : List Int) : ∀ k, (dh b k).length = 8
  | 0 => rfl
  | k + 1 => by rw [dh, comp_len]
theorem all_rng {b : List Int} (h : ∀ x ∈ b, 0 ≤ x ∧ x < 256) (j : Nat) : ∀ x ∈ ((allL b).drop j).take 64, 0 ≤ x ∧ x < 256 := fun x hx => by
  have h1 := List.mem_of_mem_drop (List.mem_of_mem_take hx)
  rcases List.mem_append.1 h1 with h2 | h2
  · exact h x h2
  · rw [List.eq_of_mem_replicate h2]
    decide
theorem bin_len {w : World} {a : Option Addr} {L c : Nat} {bs : List Int} (h : BIn w (.slice a L c) bs) (j n : Nat) (hn : j + n ≤ L) : BIn w (.slice (sa a c j) n (c - j)) ((bs.drop j).take n) := by
  obtain rfl : L = bs.length := by obtain ⟨_, _, e, _⟩ := h; cases e; rfl
  exact bin_sub h j n hn
theorem bin_cap {w : World} {a : Option Addr} {L c : Nat} {bs : List Int} (h : BIn w (.slice a L c) bs) : L ≤ c := by
  obtain ⟨_, _, e, hc, _⟩ := h
  cases e
  exact hc
theorem slop {a : Operand → Value} {ob : Oper} {ty : TypeId} {x y z : Operand} {p l m v : Value} {W : World} (ho : ob.op = .slice ty x (some y) (some z) none) (hx : a x = p) (hy : a y = l) (hz : a z = m) (hr : (Instr.sliceAt ty p (some l) (some m) none).run Tryz.prog W = .ok v W) :
    (execOp a ob).run Tryz.prog W = .ok (.value v) W := by
  unfold execOp
  simp only [ho, hx, hy, hz, Option.map_none, Option.map_some, Sem.run_bind, hr, Result.andThen_ok, Sem.run_pure]
theorem bag_drop3 {w0 w : World} {a b c d : Thg} (h : Bag w0 w [a, b, c, d]) : Bag w0 w [a, b, d] := (h.perm (show [a, b, c, d].Perm [c, a, b, d] from List.perm_append_comm (l₁ := [a, b]) (l₂ := [c]) |>.append_right [d])).drop
theorem quo4 (k : Nat) (hk : k < 32) (W : World) : (binOp .quo 3 (.int .i64 (k : Int)) (.int .i64 4)).run Tryz.prog W = .ok (.int .i64 ((k / 4 : Nat) : Int)) W := by
  obtain rfl | rfl | rfl | rfl | rfl | rfl | rfl | rfl | rfl | rfl | rfl | rfl | rfl | rfl | rfl | rfl | rfl | rfl | rfl | rfl | rfl | rfl | rfl | rfl | rfl | rfl | rfl | rfl | rfl | rfl | rfl | rfl : k = 0 ∨ k = 1 ∨ k = 2 ∨ k = 3 ∨ k = 4 ∨ k = 5 ∨ k = 6 ∨ k = 7 ∨ k = 8 ∨ k = 9 ∨ k = 10 ∨ k = 11 ∨ k = 12 ∨ k = 13 ∨ k = 14 ∨ k = 15 ∨ k = 16 ∨ k = 17 ∨ k = 18 ∨ k = 19 ∨ k = 20 ∨ k = 21 ∨ k = 22 ∨ k = 23 ∨ k = 24 ∨ k = 25 ∨ k = 26 ∨ k = 27 ∨ k = 28 ∨ k = 29 ∨ k = 30 ∨ k = 31 := by omega
  all_goals kernel_rfl
theorem rem4 (k : Nat) (hk : k < 32) (W : World) : (binOp .rem 3 (.int .i64 (k : Int)) (.int .i64 4)).run Tryz.prog W = .ok (.int .i64 ((k % 4 : Nat) : Int)) W := by
  obtain rfl | rfl | rfl | rfl | rfl | rfl | rfl | rfl | rfl | rfl | rfl | rfl | rfl | rfl | rfl | rfl | rfl | rfl | rfl | rfl | rfl | rfl | rfl | rfl | rfl | rfl | rfl | rfl | rfl | rfl | rfl | rfl : k = 0 ∨ k = 1 ∨ k = 2 ∨ k = 3 ∨ k = 4 ∨ k = 5 ∨ k = 6 ∨ k = 7 ∨ k = 8 ∨ k = 9 ∨ k = 10 ∨ k = 11 ∨ k = 12 ∨ k = 13 ∨ k = 14 ∨ k = 15 ∨ k = 16 ∨ k = 17 ∨ k = 18 ∨ k = 19 ∨ k = 20 ∨ k = 21 ∨ k = 22 ∨ k = 23 ∨ k = 24 ∨ k = 25 ∨ k = 26 ∨ k = 27 ∨ k = 28 ∨ k = 29 ∨ k = 30 ∨ k = 31 := by omega
  all_goals kernel_rfl
theorem mul8 (r : Nat) (hr : r < 4) (W : World) : (binOp .mul 3 (.int .i64 8) (.int .i64 (r : Int))).run Tryz.prog W = .ok (.int .i64 ((8 * r : Nat) : Int)) W := by
  obtain rfl | rfl | rfl | rfl : r = 0 ∨ r = 1 ∨ r = 2 ∨ r = 3 := by omega
  all_goals kernel_rfl
theorem shr8f (x : Int) (r : Nat) (hr : r < 4) (W : World) : (binOp .shr 97 (.int .u32 x) (.int .u64 ((8 * r : Nat) : Int))).run Tryz.prog W = .ok (.int .u32 (x.fdiv (2 ^ (8 * r)))) W := by
  obtain rfl | rfl | rfl | rfl : r = 0 ∨ r = 1 ∨ r = 2 ∨ r = 3 := by omega
  all_goals kernel_rfl
theorem shr8 (x : Int) (r : Nat) (hr : r < 4) (W : World) : (binOp .shr 97 (.int .u32 x) (.int .u64 ((8 * r : Nat) : Int))).run Tryz.prog W = .ok (.int .u32 (x / 2 ^ (8 * r))) W := by
  rw [shr8f x r hr W, Int.fdiv_eq_ediv_of_nonneg _ (Int.pow_nonneg (by decide))]
theorem conv8 {a : Operand → Value} {ob : Oper} {x : Operand} {r : Nat} (ho : ob.op = .convert 3 106 x) (hx : a x = .int .i64 ((8 * r : Nat) : Int)) (hr : r < 4) (W : World) : (execOp a ob).run Tryz.prog W = .ok (.value (.int .u64 ((8 * r : Nat) : Int))) W := by
  unfold execOp
  simp only [ho, hx]
  obtain rfl | rfl | rfl | rfl : r = 0 ∨ r = 1 ∨ r = 2 ∨ r = 3 := by omega
  all_goals kernel_rfl
theorem ixO (M k : Nat) (h : k < 32) (W : World) : (Instr.indexAt 39 (.pointer (some ⟨M, 0, none⟩)) (.int .i64 (k : Int))).run Tryz.prog W = .ok (.pointer (some ⟨M, k, none⟩)) W := by
  obtain rfl | rfl | rfl | rfl | rfl | rfl | rfl | rfl | rfl | rfl | rfl | rfl | rfl | rfl | rfl | rfl | rfl | rfl | rfl | rfl | rfl | rfl | rfl | rfl | rfl | rfl | rfl | rfl | rfl | rfl | rfl | rfl : k = 0 ∨ k = 1 ∨ k = 2 ∨ k = 3 ∨ k = 4 ∨ k = 5 ∨ k = 6 ∨ k = 7 ∨ k = 8 ∨ k = 9 ∨ k = 10 ∨ k = 11 ∨ k = 12 ∨ k = 13 ∨ k = 14 ∨ k = 15 ∨ k = 16 ∨ k = 17 ∨ k = 18 ∨ k = 19 ∨ k = 20 ∨ k = 21 ∨ k = 22 ∨ k = 23 ∨ k = 24 ∨ k = 25 ∨ k = 26 ∨ k = 27 ∨ k = 28 ∨ k = 29 ∨ k = 30 ∨ k = 31 := by omega
  all_goals kernel_rfl
theorem opO (a : Operand → Value) (ob : Oper) (x y : Operand) (M k : Nat) (ho : ob.op = Op.indexAddr 39 x y) (hx : a x = .pointer (some ⟨M, 0, none⟩)) (hy : a y = .int .i64 (k : Int)) (h : k < 32) (W : World) :
    (execOp a ob).run Tryz.prog W = .ok (.value (.pointer (some ⟨M, k, none⟩))) W := by
  unfold execOp
  rw [ho]
  simp only [hx, hy]
  simp only [Sem.run_bind, ixO M k h W, Result.andThen_ok, Sem.run_pure]
theorem store_u8 {o : Oper} {a : Act} {w : World} {K : Act → World → Prop} {Q : Exit → Act → World → Prop} {x y : Operand} (ho : o.op = .store 5 x y) (M k : Nat) (n : Int) (c0 : Option Value) (hx : a.eval x = .pointer (some ⟨M, k, none⟩)) (hy : a.eval y = .int .u8 n)
    (hc : w.cell? ⟨M, k, none⟩ = c0) (hs : c0.isSome = true) (hf : w.frozen? ⟨M, k, none⟩ = false) (h : K (a.put o.dst undef) (w.setCell ⟨M, k, none⟩ (.int .u8 n))) : o.wp Tryz.prog a w K Q := by
  obtain ⟨c1, rfl⟩ := Option.isSome_iff_exists.1 hs
  unfold Oper.wp execOp
  simp only [ho, hx, hy, Instr.storeAt, Instr.sureAddr, Sem.run_bind, Sem.run_pure, Result.andThen_ok]
  have hst : (storeVar 5 ⟨M, k, none⟩ (.int .u8 n)).run Tryz.prog w = .ok () (w.setCell ⟨M, k, none⟩ (.int .u8 n)) := by
    have e := run_storeCells_cells (P := Tryz.prog) M k [.int .u8 n] 0 w (fun j hj => by obtain rfl : j = 0 := (by simp at hj; omega); simp [hc]) (fun j hj => by obtain rfl : j = 0 := (by simp at hj; omega); simpa using hf) (fun v hv => by simp at hv; subst hv; rfl)
    have hq : (sizeOf 5).run Tryz.prog w = .ok 1 w := by kernel_rfl
    simp [storeVar, hq, Value.cells, World.setCells, hc, hf, go_sem] at e ⊢
  rw [hst]
  exact h
theorem b8_set (l : List Int) (i : Nat) (x : Int) : (b8 l).set i (.int .u8 x) = b8 (l.set i x) := by simp [b8, List.map_set]
theorem oneCells_b8 (l : List Int) : (b8 l).toArray.all (·.oneCell') = true := by simp [b8, Value.oneCell']
/-- How many zeros come behind. -/
def pd (n : Nat) : Nat := 64 * (before n + 1) - n
theorem pd_ne (n p : Nat) (h : p < pd n) (h0 : n + p ≠ 0) : (n + p) % 64 ≠ 0 := by unfold pd before at h; omega
theorem pd_eq (n : Nat) : (n + pd n) % 64 = 0 ∧ n + pd n ≠ 0 := by unfold pd before; omega
theorem pd_le (n : Nat) : n + pd n ≤ n + 64 := by unfold pd before; omega
theorem rep_succ (b : List Int) (p : Nat) : (b ++ List.replicate p (0 : Int)) ++ [0] = b ++ List.replicate (p + 1) 0 := by
  rw [List.replicate_succ', ← List.append_assoc]
def MidA (w : World) (R : Nat) (b : List Int) (v : Value) (U : World) : Prop :=
  ∃ (p L : Nat) (a : Option Addr) (c : Nat), p ≤ pd b.length ∧ L = b.length + p ∧ v = .slice a L c ∧ Bag w U [own (.slice a L c) (b ++ List.replicate p 0), box T32 R (b8 (List.replicate 32 0))]
def lenV : Value → Nat
  | .slice _ n _ => n
  | _ => 0
def MidB (w : World) (H R : Nat) (a : Option Addr) (L c : Nat) (b : List Int) (i : Value) (U : World) : Prop :=
  ∃ k : Nat, k ≤ before b.length + 1 ∧ i = .int .i64 ((64 * k : Nat) : Int) ∧ Bag w U [box T8 H (w32 (dh b k)), own (.slice a L c) (allL b), box T32 R (b8 (List.replicate 32 0))]
def outP (h : List Int) (k : Nat) : List Int := (List.range 32).map fun i => if i < k then BlkM.byteOf h i else 0
theorem outP_len (h : List Int) (k : Nat) : (outP h k).length = 32 := by simp [outP]
theorem outP_zero (h : List Int) : outP h 0 = List.replicate 32 0 := by
  apply List.ext_getElem
  · simp [outP]
  · intro i h1 h2
    simp only [outP, List.getElem_map, List.getElem_range, List.getElem_replicate]
    rw [if_neg (by omega)]
theorem outP_set (h : List Int) (k : Nat) (_hk : k < 32) : (outP h k).set k (BlkM.byteOf h k) = outP h (k + 1) := by
  apply List.ext_getElem
  · simp [outP]
  · intro i h1 h2
    rw [List.getElem_set]
    simp only [outP, List.getElem_map, List.getElem_range]
    by_cases e : k = i
    · subst e
      rw [if_pos rfl, if_pos (by omega)]
    · rw [if_neg e]
      by_cases e2 : i < k
      · rw [if_pos e2, if_pos (by omega)]
      · rw [if_neg e2, if_neg (by omega)]
theorem outP_all (h : List Int) : outP h 32 = out h := by
  simp only [outP, out]
  exact List.map_congr_left (fun i hi => by rw [if_pos (List.mem_range.1 hi)])
def MidC (w : World) (H R O : Nat) (h : List Int) (i : Value) (U : World) : Prop :=
  ∃ k : Nat, k ≤ 32 ∧ i = .int .i64 (k : Int) ∧ Bag w U [box T32 O (b8 (outP h k)), box T8 H (w32 h), box T32 R (b8 (List.replicate 32 0))]
set_option maxRecDepth 10000 in
set_option maxHeartbeats 4000000 in
theorem rsum_any (w : World) (a : Option Addr) (n c : Nat) (b : List Int) (hb : BIn w (.slice a n c) b) (hr : ∀ x ∈ b, 0 ≤ x ∧ x < 256) (hn : n ≤ 1000000) :
    Calls Tryz.prog 35 #[.slice a n c] w fun e w' => e = .returned (.agg (b8 (sumL b)).toArray) ∧ Below w.heap.size w w' := by
  have hnl : n = b.length := by obtain ⟨_, _, e, _⟩ := hb; cases e; rfl
  have hbR := bag_box (w0 := w) (T := T32) (cs := b8 (List.replicate 32 0)) (X := w.heap.size) (Bag.nil (Below.refl _ _)) rfl (w' := w.alloc (.cells (b8 (List.replicate 32 0)).toArray T32)) (At.new _ _ _) (Below.alloc (Below.refl _ _) (Nat.le_refl _) _)
  have HR := WirS.hide hr
  have HB := WirS.hide hb
  have HNL := WirS.hide hnl
  clear hb hr hnl
  go_enter Tryz.func35, Tryz.ntmps35
  go_upto_region 0 with fail
  refine wp_region_lit ?_
  refine sV (.pointer (some ⟨w.heap.size, 0, none⟩)) (w.alloc (.cells (b8 (List.replicate 32 0)).toArray T32)) (by kernel_rfl) (by kernel_rfl) ?_
  simp only [Act.put, List.setIfInBounds_toArray, List.set_cons_succ, List.set_cons_zero]
  obtain ⟨R, eR⟩ : ∃ A, w.heap.size = A := ⟨_, rfl⟩
  rw [eR] at hbR ⊢
  clear eR
  generalize World.alloc w _ = x0 at *
  have hb0 := bag_own (v := .slice (some ⟨x0.heap.size, 0, none⟩) 0 0) (zs := []) hbR (w' := x0.alloc (.cells #[] 5)) (own_zero x0) (fun k hk => by cases hk; exact Nat.le_refl _) (Below.alloc (Below.refl _ _) (Nat.le_refl _) _)
  obtain ⟨a1, m1, c1, x1, hm1, hrun, hb1⟩ := bag_app hb0 (HB.out.below hb0.low) (by have := HNL.out; simp; omega)
  rw [List.nil_append] at hm1 hb1
  have HST := WirS.hide (show MidA w R b (.slice a1 m1 c1) x1 from ⟨0, m1, a1, c1, Nat.zero_le _, hm1, rfl, by simpa using hb1⟩)
  clear hbR hb0 hb1 hm1
  go_upto_region 1 with fail
  refine wp_region_lit ?_
  refine sV (.slice (some ⟨x0.heap.size, 0, none⟩) 0 0) (x0.alloc (.cells #[] 5)) (by kernel_rfl) (by kernel_rfl) ?_
  simp only [Act.put, List.setIfInBounds_toArray, List.set_cons_succ, List.set_cons_zero]
  refine sV (.slice a n c) (x0.alloc (.cells #[] 5)) (by kernel_rfl) (by kernel_rfl) ?_
  simp only [Act.put, List.setIfInBounds_toArray, List.set_cons_succ, List.set_cons_zero]
  refine sA (by kernel_rfl) TB TB _ _ (by rfl) (.slice (some ⟨x0.heap.size, 0, none⟩) 0 0) (.slice a n c) (by kernel_rfl) (by kernel_rfl) (.slice a1 m1 c1) (x1) hrun ?_
  simp only [Act.put, List.setIfInBounds_toArray, List.set_cons_succ, List.set_cons_zero]
  clear hrun
  go_wp2_with fail
  go_loopw [3] (fun v wr => MidA w R b v wr) (fun v _ => b.length + pd b.length - lenV v)
  case atStart => exact HST.out
  case round =>
    clear HST
    obtain ⟨p, L, va, vc, hp, hL, rfl, hbag⟩ := hrel
    have HBG := WirS.hide hbag
    have HLE := WirS.hide hL
    have HL1 := WirS.hide (show L ≤ 2000000 by have := pd_le b.length; have := HNL.out; omega)
    clear hbag hL
    by_cases hlt : p < pd b.length
    · have hrng := HL1.out
      obtain ⟨b1, m2, c2, x2, hm2, hrun, hb2⟩ := bag_app (HBG.out.more (Below.alloc (Below.refl _ _) (Nat.le_refl _) (.cells #[.int .u8 0] 5))) (bin_one wr 0) (by have := HLE.out; simp; omega)
      rw [rep_succ] at hm2 hb2
      have HB2 := WirS.hide hb2
      have HM2 := WirS.hide (show m2 = L + 1 by rw [hm2]; have := HLE.out; simp; omega)
      have HRUN := WirS.hide hrun
      clear hb2 hm2 hrun hp
      by_cases h0 : L = 0
      · have d0 : ((L : Int) == 0) = true := by simp [h0]
        have H0 := WirS.hide h0
        clear h0
        go_upto_region 3 with fail
        refine wp_region_lit ?_
        refine sV (.slice va L vc) (wr) (by kernel_rfl) (by kernel_rfl) ?_
        simp only [Act.put, List.setIfInBounds_toArray, List.set_cons_succ, List.set_cons_zero]
        refine sV (.slice (some ⟨wr.heap.size, 0, none⟩) 1 1) (wr.alloc (.cells #[.int .u8 0] 5)) (by kernel_rfl) (by kernel_rfl) ?_
        simp only [Act.put, List.setIfInBounds_toArray, List.set_cons_succ, List.set_cons_zero]
        refine sA (by kernel_rfl) TB TB _ _ (by rfl) (.slice va L vc) (.slice (some ⟨wr.heap.size, 0, none⟩) 1 1) (by kernel_rfl) (by kernel_rfl) (.slice b1 m2 c2) (x2) HRUN.out ?_
        simp only [Act.put, List.setIfInBounds_toArray, List.set_cons_succ, List.set_cons_zero]
        clear HRUN HBG
        go_wp2_with fail
        go_roundw
        case rel => exact ⟨p + 1, m2, b1, c2, by omega, by have := HM2.out; have := HLE.out; omega, rfl, HB2.out⟩
        case measure => have := HM2.out; have := HLE.out; have := HNL.out; simp [lenV]; omega
      · have d0 : ((L : Int) == 0) = false := by simp; omega
        have d1 : ((L : Int) % 64 != 0) = true := by
          have := pd_ne b.length p hlt (by have := HLE.out; omega)
          have := HLE.out
          simp
          omega
        have H0 := WirS.hide h0
        clear h0
        go_upto_region 3 with fail
        refine wp_region_lit ?_
        refine sV (.slice va L vc) (wr) (by kernel_rfl) (by kernel_rfl) ?_
        simp only [Act.put, List.setIfInBounds_toArray, List.set_cons_succ, List.set_cons_zero]
        refine sV (.slice (some ⟨wr.heap.size, 0, none⟩) 1 1) (wr.alloc (.cells #[.int .u8 0] 5)) (by kernel_rfl) (by kernel_rfl) ?_
        simp only [Act.put, List.setIfInBounds_toArray, List.set_cons_succ, List.set_cons_zero]
        refine sA (by kernel_rfl) TB TB _ _ (by rfl) (.slice va L vc) (.slice (some ⟨wr.heap.size, 0, none⟩) 1 1) (by kernel_rfl) (by kernel_rfl) (.slice b1 m2 c2) (x2) HRUN.out ?_
        simp only [Act.put, List.setIfInBounds_toArray, List.set_cons_succ, List.set_cons_zero]
        clear HRUN HBG
        go_wp2_with fail
        go_roundw
        case rel => exact ⟨p + 1, m2, b1, c2, by omega, by have := HM2.out; have := HLE.out; omega, rfl, HB2.out⟩
        case measure => have := HM2.out; have := HLE.out; have := HNL.out; simp [lenV]; omega
    · have hpd : p = pd b.length := by omega
      have hpe := pd_eq b.length
      have hl1 : L % 64 = 0 ∧ L ≠ 0 := by rw [HLE.out, hpd]; exact hpe
      have d0 : ((L : Int) == 0) = false := by simp; omega
      have d1 : ((L : Int) % 64 != 0) = false := by
        simp
        omega
      have HBA : Hid (Bag w wr [own (.slice va L vc) (allL b), box T32 R (b8 (List.replicate 32 0))]) := by
        have h := HBG.out
        rw [hpd] at h
        exact h
      have HLA := WirS.hide (show L = 64 * (before b.length + 1) by rw [HLE.out, hpd]; unfold pd before; omega)
      clear hlt hpd hpe hl1 HBG hp
      go_upto_region 4 with fail
      refine wp_region_lit ?_
      refine sC (by kernel_rfl) (by kernel_rfl) (rbegin_any wr) ?_
      rintro u0 hb
      simp only [Act.put, List.setIfInBounds_toArray, List.set_cons_succ, List.set_cons_zero]
      have HB0 := WirS.hide (HBA.out.more hb)
      clear HBA hb
      refine sV (.pointer (some ⟨u0.heap.size, 0, none⟩)) (u0.alloc (.cells (w32 (List.replicate 8 0)).toArray T8)) (by kernel_rfl) (by kernel_rfl) ?_
      simp only [Act.put, List.setIfInBounds_toArray, List.set_cons_succ, List.set_cons_zero]
      obtain ⟨H, eH⟩ : ∃ A, u0.heap.size = A := ⟨_, rfl⟩
      have hbH := bag_box (T := T8) (cs := w32 (List.replicate 8 0)) (X := H) HB0.out eH.symm (w' := u0.alloc (.cells (w32 (List.replicate 8 0)).toArray T8)) (by rw [← eH]; exact At.new _ _ _) (Below.alloc (Below.refl _ _) (Nat.le_refl _) _)
      rw [eH]
      clear eH HB0
      generalize World.alloc u0 _ = u1 at *
      refine stepStore (by rfl) _ _ _ (by rfl) H (w32 ini) (by kernel_rfl) (by kernel_rfl) hbH.head 8 (by kernel_rfl) (by rfl) (by rfl) (oneCells_w32 _) ?_
      simp only [Act.put]
      have HB1 := WirS.hide (bag_row hbH (w32 ini))
      clear hbH
      generalize World.setRow u1 _ _ = u2 at *
      go_upto_region 5 with fail
      refine wp_region_lit ?_
      refine sV (.pointer (some ⟨H, 0, none⟩)) (u2) (by kernel_rfl) (by kernel_rfl) ?_
      simp only [Act.put, List.setIfInBounds_toArray, List.set_cons_succ, List.set_cons_zero]
      refine sP (by kernel_rfl) _ _ (by rfl) ⟨H, 0, none⟩ (by kernel_rfl) (.int .u32 1779033703) (HB1.out.head.cell 0) (by kernel_rfl) ?_
      simp only [Act.put, List.setIfInBounds_toArray, List.set_cons_succ, List.set_cons_zero]
      refine sV (.int .u32 (xo 1779033703 16842784)) (u2) (by kernel_rfl) (by kernel_rfl) ?_
      simp only [Act.put, List.setIfInBounds_toArray, List.set_cons_succ, List.set_cons_zero]
      refine sV (.pointer (some ⟨H, 0, none⟩)) (u2) (by kernel_rfl) (by kernel_rfl) ?_
      simp only [Act.put, List.setIfInBounds_toArray, List.set_cons_succ, List.set_cons_zero]
      refine stepW (by kernel_rfl) (fun K hK => store_u32 (x := .tmp 27) (y := .tmp 26) (by kernel_rfl) H 0 (xo 1779033703 16842784) _ (by kernel_rfl) (by kernel_rfl) (HB1.out.head.cell 0) (by rfl) (HB1.out.head.frozen 0) (hK _ _ ?_))
      simp only [Act.put]
      have HB2 := WirS.hide (bag_set HB1.out 0 (.int .u32 (xo 1779033703 16842784)))
      clear HB1
      generalize World.setCell u2 _ _ = u3 at *
      have HST2 := WirS.hide (show MidB w H R va L vc b (.int .i64 0) u3 from ⟨0, by omega, rfl, HB2.out⟩)
      clear HB2
      go_wp2_with fail
      go_loopw [5] (fun i wr => MidB w H R va L vc b i wr) (fun i _ => L - (intOf i).toNat)
      case atStart => exact HST2.out
      case round =>
        clear HST2
        obtain ⟨k, hk, rfl, hbag⟩ := hrel
        have HBG := WirS.hide hbag
        clear hbag
        have HK := WirS.hide hk
        clear hk
        obtain ⟨j, hj⟩ : ∃ j, 64 * k = j := ⟨_, rfl⟩
        rw [hj]
        have HJ := WirS.hide hj
        by_cases hlt : j < L
        · have hlt2 : (j : Int) < (L : Int) := by omega
          have hL2 := HL1.out
          have hj64 : j + 64 ≤ L := by have := HLA.out; omega
          obtain ⟨m, hm⟩ : ∃ m, j + 64 = m := ⟨_, rfl⟩
          have f1 : IntKind.i64.wrap ((j : Int) + 64) = (m : Int) := by rw [IntWalk.i64_in _ (by omega)]; omega
          obtain ⟨q, hq⟩ : ∃ q, min n m = q := ⟨_, rfl⟩
          have f2 : (min (n : Int) (m : Int)) = (q : Int) := by omega
          obtain ⟨ls, hls⟩ : ∃ ls : Bool, ((m : Int) == (L : Int)) = ls := ⟨_, rfl⟩
          have hmL : m ≤ L := by omega
          have hLc : L ≤ vc := bin_cap (WirM.Own.bin HBG.out.drop.head)
          have HSL := WirS.hide (slR va L vc j m 64 hm.symm hmL hLc)
          have HBIN := WirS.hide (fun (U : World) (cs : List Value) (hb : Bag w U [box T8 H cs, own (.slice va L vc) (allL b), box T32 R (b8 (List.replicate 32 0))]) => bin_len (WirM.Own.bin hb.drop.head) j 64 hj64)
          have HDH := WirS.hide (show dh b (k + 1) = comp (dh b k) (((allL b).drop j).take 64) (q : Int) (if ls then 4294967295 else 0) from by
            rw [dh, HJ.out, hm]
            congr 1
            · rw [← hq, HNL.out]
            · rw [← hls, allL_len, ← HLA.out]
              by_cases e : m = L
              · rw [if_pos e, if_pos (by simp; omega)]
              · rw [if_neg e, if_neg (by simp; omega)])
          have HCC := WirS.hide (fun (U : World) (cs : List Value) (hb : Bag w U [box T8 H cs, own (.slice va L vc) (allL b), box T32 R (b8 (List.replicate 32 0))]) => rblock_any U (dh b k) (((allL b).drop j).take 64) (sa va vc j) (vc - j) (q : Int) ls (dh_len b k) (HBIN.out U cs hb) (all_rng HR.out j) (by omega) (by omega))
          obtain ⟨h1, eh1⟩ : ∃ h, dh b k = h := ⟨_, rfl⟩
          obtain ⟨h2, eh2⟩ : ∃ h, dh b (k + 1) = h := ⟨_, rfl⟩
          have HH1 := WirS.hide (show h1.length = 8 by rw [← eh1]; exact dh_len b k)
          have HH2 := WirS.hide (show h2.length = 8 by rw [← eh2]; exact dh_len b (k + 1))
          rw [← HDH.out, eh1, eh2] at HCC
          rw [eh1] at HBG
          have EH2 := WirS.hide eh2
          have HM := WirS.hide hm
          have HQ := WirS.hide hq
          have HLS := WirS.hide hls
          have HBZ : Hid (Bag w wr.drew [box T8 H (w32 h1), own (.slice va L vc) (allL b), box T32 R (b8 (List.replicate 32 0))]) := WirS.hide (HBG.out.more (below_drewN (Below.refl _ _) 1))
          clear HBG HDH HBIN eh1 eh2 hq hm hls hj hLc
          go_upto_region 9 with fail
          refine wp_region_noPanic ?_
          refine wp_region_held_drew (S := fun _ => True) (by kernel_rfl) trivial (fun hHeld => ?_)
          generalize World.drew wr = z0 at *
          refine' wpAnyH_take (i := 1) (oi := _) (v := _) rfl (by kernel_rfl) (by kernel_rfl) (by kernel_rfl) (fun _ _ _ h => h) (Or.inl ⟨by kernel_rfl, ?hy1⟩) (by assumption) ?rest1
          case hy1 =>
            intro w hSw
            try dsimp only at hSw
            go_simp
            try with_reducible rfl
          case rest1 =>
          try simp only [List.getElem_toArray, List.getElem_cons_succ, List.getElem_cons_zero, Act.put, List.setIfInBounds_toArray, List.set_cons_zero, List.set_cons_succ]
          refine' wpAnyH_take (i := 2) (oi := _) (v := _) rfl (by kernel_rfl) (by kernel_rfl) (by kernel_rfl) (fun _ _ _ h => h) (Or.inl ⟨by kernel_rfl, ?hy2⟩) (by assumption) ?rest2
          case hy2 =>
            intro w hSw
            try dsimp only at hSw
            go_simp
            try with_reducible rfl
          case rest2 =>
          try simp only [List.getElem_toArray, List.getElem_cons_succ, List.getElem_cons_zero, Act.put, List.setIfInBounds_toArray, List.set_cons_zero, List.set_cons_succ]
          refine' wpAnyH_take (i := 3) (oi := _) (v := _) rfl (by kernel_rfl) (by kernel_rfl) (by kernel_rfl) (fun _ _ _ h => h) (Or.inl ⟨by kernel_rfl, ?hy3⟩) (by assumption) ?rest3
          case hy3 =>
            intro w hSw
            try dsimp only at hSw
            go_simp
            try with_reducible rfl
          case rest3 =>
          try simp only [List.getElem_toArray, List.getElem_cons_succ, List.getElem_cons_zero, Act.put, List.setIfInBounds_toArray, List.set_cons_zero, List.set_cons_succ]
          refine' wpAnyH_take (i := 4) (oi := _) (v := _) rfl (by kernel_rfl) (by kernel_rfl) (by kernel_rfl) (fun _ _ _ h => h) (Or.inl ⟨by kernel_rfl, ?hy4⟩) (by assumption) ?rest4
          case hy4 =>
            intro w hSw
            try dsimp only at hSw
            go_simp
            try with_reducible rfl
          case rest4 =>
          try simp only [List.getElem_toArray, List.getElem_cons_succ, List.getElem_cons_zero, Act.put, List.setIfInBounds_toArray, List.set_cons_zero, List.set_cons_succ]
          refine' wpAnyH_take (i := 5) (oi := _) (v := .slice (sa va vc j) 64 (vc - j)) rfl (by kernel_rfl) (by kernel_rfl) (by kernel_rfl) (fun _ _ _ h => h) (Or.inl ⟨by kernel_rfl, ?hy5⟩) (by assumption) ?rest5
          case hy5 =>
            intro W _
            exact (fun W => slop (x := .tmp 35) (y := .tmp 36) (z := .tmp 38) (by kernel_rfl) (by kernel_rfl) (by kernel_rfl) (by kernel_rfl) (HSL.out W)) W
          case rest5 =>
          try simp only [List.getElem_toArray, List.getElem_cons_succ, List.getElem_cons_zero, Act.put, List.setIfInBounds_toArray, List.set_cons_zero, List.set_cons_succ]
          refine' wpAnyH_take (i := 6) (oi := _) (v := _) rfl (by kernel_rfl) (by kernel_rfl) (by kernel_rfl) (fun _ _ _ h => h) (Or.inl ⟨by kernel_rfl, ?hy6⟩) (by assumption) ?rest6
          case hy6 =>
            intro w hSw
            try dsimp only at hSw
            go_simp
            try with_reducible rfl
          case rest6 =>
          try simp only [List.getElem_toArray, List.getElem_cons_succ, List.getElem_cons_zero, Act.put, List.setIfInBounds_toArray, List.set_cons_zero, List.set_cons_succ]
          refine' wpAnyH_take (i := 7) (oi := _) (v := _) rfl (by kernel_rfl) (by kernel_rfl) (by kernel_rfl) (fun _ _ _ h => h) (Or.inl ⟨by kernel_rfl, ?hy7⟩) (by assumption) ?rest7
          case hy7 =>
            intro w hSw
            try dsimp only at hSw
            go_simp
            try with_reducible rfl
          case rest7 =>
          try simp only [List.getElem_toArray, List.getElem_cons_succ, List.getElem_cons_zero, Act.put, List.setIfInBounds_toArray, List.set_cons_zero, List.set_cons_succ]
          refine' wpAnyH_take (i := 8) (oi := _) (v := _) rfl (by kernel_rfl) (by kernel_rfl) (by kernel_rfl) (fun _ _ _ h => h) (Or.inl ⟨by kernel_rfl, ?hy8⟩) (by assumption) ?rest8
          case hy8 =>
            intro w hSw
            try dsimp only at hSw
            go_simp
            try with_reducible rfl
          case rest8 =>
          try simp only [List.getElem_toArray, List.getElem_cons_succ, List.getElem_cons_zero, Act.put, List.setIfInBounds_toArray, List.set_cons_zero, List.set_cons_succ]
          refine' wpAnyH_take (i := 9) (oi := _) (v := _) rfl (by kernel_rfl) (by kernel_rfl) (by kernel_rfl) (fun _ _ _ h => h) (Or.inl ⟨by kernel_rfl, ?hy9⟩) (by assumption) ?rest9
          case hy9 =>
            intro w hSw
            try dsimp only at hSw
            go_simp
            try with_reducible rfl
          case rest9 =>
          try simp only [List.getElem_toArray, List.getElem_cons_succ, List.getElem_cons_zero, Act.put, List.setIfInBounds_toArray, List.set_cons_zero, List.set_cons_succ]
          refine' wpAnyH_take (i := 10) (oi := _) (v := .int .i64 (q : Int)) rfl (by kernel_rfl) (by kernel_rfl) (by kernel_rfl) (fun _ _ _ h => h) (Or.inl ⟨by kernel_rfl, ?hy10⟩) (by assumption) ?rest10
          case hy10 =>
            intro W _
            exact (fun W => by go_simp) W
          case rest10 =>
          try simp only [List.getElem_toArray, List.getElem_cons_succ, List.getElem_cons_zero, Act.put, List.setIfInBounds_toArray, List.set_cons_zero, List.set_cons_succ]
          refine' wpAnyH_take (i := 11) (oi := _) (v := _) rfl (by kernel_rfl) (by kernel_rfl) (by kernel_rfl) (fun _ _ _ h => h) (Or.inl ⟨by kernel_rfl, ?hy11⟩) (by assumption) ?rest11
          case hy11 =>
            intro w hSw
            try dsimp only at hSw
            go_simp
            try with_reducible rfl
          case rest11 =>
          try simp only [List.getElem_toArray, List.getElem_cons_succ, List.getElem_cons_zero, Act.put, List.setIfInBounds_toArray, List.set_cons_zero, List.set_cons_succ]
          refine' wpAnyH_take (i := 12) (oi := _) (v := _) rfl (by kernel_rfl) (by kernel_rfl) (by kernel_rfl) (fun _ _ _ h => h) (Or.inl ⟨by kernel_rfl, ?hy12⟩) (by assumption) ?rest12
          case hy12 =>
            intro w hSw
            try dsimp only at hSw
            go_simp
            try with_reducible rfl
          case rest12 =>
          try simp only [List.getElem_toArray, List.getElem_cons_succ, List.getElem_cons_zero, Act.put, List.setIfInBounds_toArray, List.set_cons_zero, List.set_cons_succ]
          refine' wpAnyH_take (i := 13) (oi := _) (v := _) rfl (by kernel_rfl) (by kernel_rfl) (by kernel_rfl) (fun _ _ _ h => h) (Or.inl ⟨by kernel_rfl, ?hy13⟩) (by assumption) ?rest13
          case hy13 =>
            intro w hSw
            try dsimp only at hSw
            go_simp
            try with_reducible rfl
          case rest13 =>
          try simp only [List.getElem_toArray, List.getElem_cons_succ, List.getElem_cons_zero, Act.put, List.setIfInBounds_toArray, List.set_cons_zero, List.set_cons_succ]
          refine' wpAnyH_take (i := 14) (oi := _) (v := _) rfl (by kernel_rfl) (by kernel_rfl) (by kernel_rfl) (fun _ _ _ h => h) (Or.inl ⟨by kernel_rfl, ?hy14⟩) (by assumption) ?rest14
          case hy14 =>
            intro w hSw
            try dsimp only at hSw
            go_simp
            try with_reducible rfl
          case rest14 =>
          try simp only [List.getElem_toArray, List.getElem_cons_succ, List.getElem_cons_zero, Act.put, List.setIfInBounds_toArray, List.set_cons_zero, List.set_cons_succ]
          refine' wpAnyH_take (i := 15) (oi := _) (v := .bool ls) rfl (by kernel_rfl) (by kernel_rfl) (by kernel_rfl) (fun _ _ _ h => h) (Or.inl ⟨by kernel_rfl, ?hy15⟩) (by assumption) ?rest15
          case hy15 =>
            intro W _
            exact (fun W => by go_simp; exact HLS.out) W
          case rest15 =>
          try simp only [List.getElem_toArray, List.getElem_cons_succ, List.getElem_cons_zero, Act.put, List.setIfInBounds_toArray, List.set_cons_zero, List.set_cons_succ]
          refine wpAnyH_ready (rs := [0]) (by kernel_rfl) (by simp) ?_
          refine AllReadyH.cons rfl (fun K hK => ?_) AllReadyH.nil
          rw [if_pos (by kernel_rfl)]
          refine wp_load_row 98 (.tmp 4) (by kernel_rfl) H (by kernel_rfl) T8 (w32 h1).toArray (0, 0) _ HBZ.out.head Tryz.underlying98 (by rfl) (by rw [List.size_toArray, w32_len, HH1.out]; kernel_rfl) ?_
          try simp only [List.getElem_toArray, List.getElem_cons_zero, Act.put, List.setIfInBounds_toArray, List.set_cons_zero, List.set_cons_succ]
          refine hK.out _ _ trivial (fun hHeld => ?_)
          clear hK K
          refine wpAnyH_ready (rs := [16]) (by kernel_rfl) (by simp) ?_
          refine AllReadyH.cons rfl (fun K hK => ?_) AllReadyH.nil
          rw [if_pos (by kernel_rfl)]
          refine stepCallH (v := .agg (w32 h2).toArray) (R := fun w' => Below z0.heap.size z0 w') (by kernel_rfl) (HCC.out z0 _ HBZ.out) ?_
          intro z1 hb
          try simp only [List.getElem_toArray, List.getElem_cons_succ, List.getElem_cons_zero, Act.put, List.setIfInBounds_toArray, List.set_cons_zero, List.set_cons_succ]
          have HB1 := WirS.hide (HBZ.out.more hb)
          clear hb
          refine hK.out _ _ trivial (fun hHeld => ?_)
          clear hK K
          refine wpAnyH_ready (rs := [17]) (by kernel_rfl) (by simp) ?_
          refine AllReadyH.cons rfl (fun K hK => ?_) AllReadyH.nil
          rw [if_pos (by kernel_rfl)]
          refine wp_store_row 98 (.tmp 4) (.tmp 50) (by kernel_rfl) H (w32 h2).toArray (by kernel_rfl) (by kernel_rfl) T8 (w32 h1).toArray HB1.out.head (by rw [List.size_toArray, w32_len, HH2.out]; kernel_rfl) (by rw [List.size_toArray, List.size_toArray, w32_len, w32_len, HH1.out, HH2.out]) (oneCells_w32 _) ?_
          have HB2 := WirS.hide (bag_row HB1.out (w32 h2))
          refine hK.out _ _ trivial (fun hHeld => ?_)
          clear hK K
          try simp only [Act.put]
          refine wpAnyH_done (by kernel_rfl) ?_ _
          refine NoPanic.normal ?_
          clear hHeld
          generalize World.setRow z1 _ _ = z2 at *
          go_wp2_with fail
          go_roundw
          case rel => exact ⟨k + 1, by have := HLA.out; have := HJ.out; omega, by have := HJ.out; have := HM.out; go_num, by rw [EH2.out]; exact HB2.out⟩
          case measure => have := HM.out; simp [intOf]; omega
        · have hk1 : k = before b.length + 1 := by have := HLA.out; have := HK.out; omega
          have HBF : Hid (Bag w wr [box T8 H (w32 (fin b)), own (.slice va L vc) (allL b), box T32 R (b8 (List.replicate 32 0))]) := by
            have h := HBG.out
            rw [hk1, dh_fin] at h
            exact h
          have hlt2 : ¬ (j : Int) < (L : Int) := by omega
          clear hk1 HBG hj
          go_upto_region 10 with fail
          refine wp_region_lit ?_
          refine sV (.pointer (some ⟨wr.heap.size, 0, none⟩)) (wr.alloc (.cells (b8 (List.replicate 32 0)).toArray T32)) (by kernel_rfl) (by kernel_rfl) ?_
          simp only [Act.put, List.setIfInBounds_toArray, List.set_cons_succ, List.set_cons_zero]
          obtain ⟨O, eO⟩ : ∃ A, wr.heap.size = A := ⟨_, rfl⟩
          have hbO := bag_box (T := T32) (cs := b8 (outP (fin b) 0)) (X := O) HBF.out eO.symm (w' := wr.alloc (.cells (b8 (List.replicate 32 0)).toArray T32)) (by rw [← eO, outP_zero]; exact At.new _ _ _) (Below.alloc (Below.refl _ _) (Nat.le_refl _) _)
          rw [eO]
          clear eO HBF
          generalize World.alloc wr _ = y0 at *
          have HFL := WirS.hide (fin_len b)
          have HOUT := WirS.hide (show sumL b = outP (fin b) 32 by rw [outP_all]; rfl)
          obtain ⟨h, eh⟩ : ∃ h, fin b = h := ⟨_, rfl⟩
          rw [eh] at HFL HOUT hbO
          clear eh
          have HST3 := WirS.hide (show MidC w H R O h (.int .i64 0) y0 from ⟨0, by omega, rfl, bag_drop3 hbO⟩)
          clear hbO
          go_wp2_with fail
          go_loopw [7] (fun i wr => MidC w H R O h i wr) (fun i _ => 32 - (intOf i).toNat)
          case atStart => exact HST3.out
          case round =>
            clear HST3
            obtain ⟨k, hk, rfl, hbag⟩ := hrel
            have HBG := WirS.hide hbag
            clear hbag
            by_cases hk32 : k < 32
            · have hk322 : (k : Int) < 32 := by omega
              obtain ⟨x, hx⟩ : ∃ x, h.getD (k / 4) 0 = x := ⟨_, rfl⟩
              have HQ := WirS.hide (show k / 4 < 8 by omega)
              have HC := WirS.hide (show wr.cell? ⟨H, k / 4, none⟩ = some (.int .u32 x) by rw [HBG.out.drop.head.cell, w32_get _ _ (by rw [HFL.out]; exact HQ.out), hx])
              have HBY := WirS.hide (show BlkM.byteOf h k = IntKind.u8.wrap (x / 2 ^ (8 * (k % 4))) by unfold BlkM.byteOf; rw [hx])
              clear hx
              go_upto_region 14 with fail
              refine wp_region_lit ?_
              refine sV (.int .i64 (k : Int)) (wr) (by kernel_rfl) (by kernel_rfl) ?_
              simp only [Act.put, List.setIfInBounds_toArray, List.set_cons_succ, List.set_cons_zero]
              refine sV (.int .i64 (k : Int)) (wr) (by kernel_rfl) (by kernel_rfl) ?_
              simp only [Act.put, List.setIfInBounds_toArray, List.set_cons_succ, List.set_cons_zero]
              refine sB (by kernel_rfl) .quo _ _ _ _ (by rfl) (.int .i64 (k : Int)) (.int .i64 4) (by kernel_rfl) (by kernel_rfl) (.int .i64 ((k / 4 : Nat) : Int)) (quo4 k hk32 wr) (by kernel_rfl) ?_
              simp only [Act.put, List.setIfInBounds_toArray, List.set_cons_succ, List.set_cons_zero]
              refine sV (.pointer (some ⟨H, k / 4, none⟩)) wr (by kernel_rfl) (opH _ _ _ _ H (k / 4) rfl (by kernel_rfl) (by kernel_rfl) HQ.out wr) ?_
              simp only [Act.put, List.setIfInBounds_toArray, List.set_cons_succ, List.set_cons_zero]
              refine sP (by kernel_rfl) _ _ (by rfl) ⟨H, k / 4, none⟩ (by kernel_rfl) (.int .u32 x) HC.out (by kernel_rfl) ?_
              simp only [Act.put, List.setIfInBounds_toArray, List.set_cons_succ, List.set_cons_zero]
              refine sV (.int .i64 (k : Int)) (wr) (by kernel_rfl) (by kernel_rfl) ?_
              simp only [Act.put, List.setIfInBounds_toArray, List.set_cons_succ, List.set_cons_zero]
              refine sB (by kernel_rfl) .rem _ _ _ _ (by rfl) (.int .i64 (k : Int)) (.int .i64 4) (by kernel_rfl) (by kernel_rfl) (.int .i64 ((k % 4 : Nat) : Int)) (rem4 k hk32 wr) (by kernel_rfl) ?_
              simp only [Act.put, List.setIfInBounds_toArray, List.set_cons_succ, List.set_cons_zero]
              refine sB (by kernel_rfl) .mul _ _ _ _ (by rfl) (.int .i64 8) (.int .i64 ((k % 4 : Nat) : Int)) (by kernel_rfl) (by kernel_rfl) (.int .i64 ((8 * (k % 4) : Nat) : Int)) (mul8 (k % 4) (by omega) wr) (by kernel_rfl) ?_
              simp only [Act.put, List.setIfInBounds_toArray, List.set_cons_succ, List.set_cons_zero]
              refine sV (.int .u64 ((8 * (k % 4) : Nat) : Int)) wr (by kernel_rfl) (conv8 (x := .tmp 62) (by kernel_rfl) (by kernel_rfl) (by omega) wr) ?_
              simp only [Act.put, List.setIfInBounds_toArray, List.set_cons_succ, List.set_cons_zero]
              refine sB (by kernel_rfl) .shr _ _ _ _ (by rfl) (.int .u32 x) (.int .u64 ((8 * (k % 4) : Nat) : Int)) (by kernel_rfl) (by kernel_rfl) (.int .u32 (x / 2 ^ (8 * (k % 4)))) (shr8 x (k % 4) (by omega) wr) (by kernel_rfl) ?_
              simp only [Act.put, List.setIfInBounds_toArray, List.set_cons_succ, List.set_cons_zero]
              refine sV (.int .u8 (IntKind.u8.wrap (x / 2 ^ (8 * (k % 4))))) (wr) (by kernel_rfl) (by kernel_rfl) ?_
              simp only [Act.put, List.setIfInBounds_toArray, List.set_cons_succ, List.set_cons_zero]
              refine sV (.pointer (some ⟨O, k, none⟩)) wr (by kernel_rfl) (opO _ _ _ _ O k rfl (by kernel_rfl) (by kernel_rfl) hk32 wr) ?_
              simp only [Act.put, List.setIfInBounds_toArray, List.set_cons_succ, List.set_cons_zero]
              refine stepW (by kernel_rfl) (fun K hK => store_u8 (x := .tmp 66) (y := .tmp 65) (by kernel_rfl) O k (IntKind.u8.wrap (x / 2 ^ (8 * (k % 4)))) _ (by kernel_rfl) (by kernel_rfl) (HBG.out.head.cell k) (by rw [b8_get _ k (by rw [outP_len]; exact hk32)]; rfl) (HBG.out.head.frozen k) (hK _ _ ?_))
              simp only [Act.put]
              have hb2 := bag_set HBG.out k (.int .u8 (IntKind.u8.wrap (x / 2 ^ (8 * (k % 4)))))
              rw [← HBY.out, b8_set, outP_set h k hk32] at hb2
              rw [← HBY.out]
              have HB2 := WirS.hide hb2
              clear hb2 HBG
              generalize World.setCell wr _ _ = y1 at *
              go_wp2_with fail
              go_roundw
              case rel => exact ⟨k + 1, by omega, by go_num, HB2.out⟩
              case measure => simp [intOf]; omega
            · obtain rfl : k = 32 := by omega
              have HCL := WirS.hide (show (b8 (outP h 32)).length = 32 by rw [b8_len, outP_len])
              obtain ⟨cc, ecc⟩ : ∃ cc, b8 (outP h 32) = cc := ⟨_, rfl⟩
              rw [ecc] at HBG HCL
              have HCC := WirS.hide ecc
              have HONE := WirS.hide (show cc.toArray.all (·.oneCell') = true by rw [← ecc]; exact oneCells_b8 _)
              clear ecc
              go_upto_region 15 with fail
              refine wp_region_lit ?_
              refine sL (by kernel_rfl) _ _ (by rfl) _ (by kernel_rfl) HBG.out.head _ 32 Tryz.underlying39 rfl (by kernel_rfl) HCL.out ?_
              simp only [Act.put, List.setIfInBounds_toArray, List.set_cons_succ, List.set_cons_zero]
              have hbR := HBG.out.drop.drop
              refine stepStore (by rfl) _ _ _ (by rfl) R cc (by kernel_rfl) (by kernel_rfl) hbR.head 32 (by kernel_rfl) (by rfl) HCL.out HONE.out ?_
              simp only [Act.put]
              have HBR := WirS.hide (bag_row hbR cc)
              clear hbR HBG
              generalize World.setRow wr _ _ = u3 at *
              go_wp2_with fail
              exact bodyPost_ret (retRow HBR.out.head Tryz.results35 _ (by rfl) _ 32 Tryz.underlying39 rfl (by kernel_rfl) HCL.out) rfl ⟨by rw [HOUT.out, HCC.out], HBR.out.low⟩
end BlkSe
end Go.Proofs.YtpambhlhkmkagaaGreatDoor
