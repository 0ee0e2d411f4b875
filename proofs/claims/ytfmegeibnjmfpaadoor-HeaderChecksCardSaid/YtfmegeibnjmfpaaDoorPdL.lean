/-
  WirBE, WirAB, KitB, KitC, in one text.
-/
import Derived.Test.YtfmegeibnjmfpaaDoorPdG
import Derived.ChangeKeysEq
import Derived.Test.YtfmegeibnjmfpaaDoorWirS
namespace Go.Proofs.YtfmegeibnjmfpaaDoor
namespace WirBE
open Go.RowKit Go.Lib
open BlkM WirM WirS WirP

theorem part8 (l : List Int) (i : Nat) (h : i < l.length) (W : World) : (part 5 (b8 l).toArray (i * 1)).run Tryd.prog W = .ok (.int .u8 (l.getD i 0)) W := by
  have hg := b8_get l i h
  have hb : i < (b8 l).length := by rw [b8_len]; exact h
  rw [List.getElem?_eq_getElem hb] at hg
  have h1 : (b8 l)[i] = Value.int .u8 (l.getD i 0) := Option.some.inj hg
  have ha : (isAgg 5).run Tryd.prog W = .ok false W := by kernel_rfl
  simp [part, Sem.run_bind, ha, hb, h1]
theorem eqItems8 (l m : List Int) (hl : l.length = 32) (hm : m.length = 32) (d : Nat) (W : World) : ∀ is : List Nat, (∀ i ∈ is, i < 32) →
    (Op.eqItems (d + 1) 5 1 (b8 l).toArray (b8 m).toArray is).run Tryd.prog W = .ok (decide (∀ i ∈ is, l.getD i 0 = m.getD i 0)) W
  | [], _ => by simp [Op.eqItems]
  | i :: is, h => by
    have h1 := part8 l i (by rw [hl]; exact h i (by simp)) W
    have h2 := part8 m i (by rw [hm]; exact h i (by simp)) W
    have h3 := eqItems8 l m hl hm d W is (fun j hj => h j (by simp [hj]))
    have h4 : (Op.equalIn (d + 1) 5 (.int .u8 (l.getD i 0)) (.int .u8 (m.getD i 0))).run Tryd.prog W = .ok (l.getD i 0 == m.getD i 0) W := by
      simp [Op.equalIn, run_underlying Tryd.underlying5]
    simp only [Op.eqItems, Sem.run_bind, h1, h2, h4, Result.andThen_ok]
    by_cases e : l.getD i 0 = m.getD i 0
    · have hiff : (∀ j ∈ i :: is, l.getD j 0 = m.getD j 0) ↔ (∀ j ∈ is, l.getD j 0 = m.getD j 0) := ⟨fun h j hj => h j (List.mem_cons_of_mem _ hj), fun h j hj => (List.mem_cons.1 hj).elim (fun x => by rw [x]; exact e) (h j)⟩
      rw [show (l.getD i 0 == m.getD i 0) = true from beq_iff_eq.2 e]
      simp only [Bool.not_true, Bool.false_eq_true, if_false, h3, hiff]
    · have e2 : (l.getD i 0 == m.getD i 0) = false := by simpa using e
      have hf : ¬ (∀ j ∈ i :: is, l.getD j 0 = m.getD j 0) := fun h => e (h i (List.mem_cons_self))
      rw [e2, decide_eq_false hf]
      simp
theorem ext32 {l m : List Int} (hl : l.length = 32) (hm : m.length = 32) : (∀ i ∈ List.range 32, l.getD i 0 = m.getD i 0) ↔ l = m := by
  constructor
  · intro h
    apply List.ext_getElem (by omega)
    intro i h1 h2
    have := h i (List.mem_range.2 (by omega))
    rw [List.getD_eq_getElem?_getD, List.getElem?_eq_getElem h1, List.getD_eq_getElem?_getD, List.getElem?_eq_getElem h2] at this
    exact this
  · rintro rfl i _
    rfl
end WirBE
end Go.Proofs.YtfmegeibnjmfpaaDoor

namespace Go.Proofs.YtfmegeibnjmfpaaDoor
namespace WirAB
open Go.RowKit PaceA
open BlkM WirM WirS WirA WirB WirC WirD WirE WirF WirG WirH WirI WirJ WirK WirL WirN WirO WirP WirQ WirR WirT WirU WirX WirZ WirNA WirRT WirAA

theorem turn3 {w0 w : World} {o1 o2 o3 : Thg} {l : List Thg} (h : Bag w0 w (o1 :: o2 :: o3 :: l)) : Bag w0 w (o3 :: o2 :: o1 :: l) :=
  h.perm ((List.Perm.swap _ _ _).trans ((List.Perm.cons _ (.swap _ _ _)).trans (.swap _ _ _)))
theorem there_at {w : World} {X : Nat} {T : TypeId} {cs : List Value} (h : At w X T cs) (o n : Nat) (hl : o + n ≤ cs.length) : w.there X o n := fun j hj =>
  ⟨by rw [h.cell, List.getElem?_eq_getElem (by omega)]; rfl, h.frozen _⟩
theorem sCx {P : Program} {ops : Array Oper} {rest : List Oper} {o : Oper} {a : Act} {w : World} {Q : Exit → Act → World → Prop} {f : FuncId} {args : Array Value} {R : Ending → World → Prop} (hw : Region.wanted o (yielded ops a.tmps) = true) (hrun : (execOp a.eval o).run P w = .ok (.enter f args) w)
    (hc : Calls P f args w R) (h : ∀ e w', R e w' → ∃ v, e = .returned v ∧ wpList P ops Q rest (a.put o.dst v) w') : wpList P ops Q (o :: rest) a w :=
  stepW hw fun _ hK => by
    unfold Oper.wp
    rw [hrun, Oper.upon_enter]
    exact hc.mono (by
      intro e w' hq
      obtain ⟨v, rfl, hh⟩ := h e w' hq
      exact hK _ _ hh)
end WirAB
end Go.Proofs.YtfmegeibnjmfpaaDoor

namespace Go.Proofs.YtfmegeibnjmfpaaDoor
namespace KitB
open Go.RowKit
open BlkM WirM WirS

theorem Own.set {w : World} {T : TypeId} {g n cap : Nat} {zs : List Int} (h : Own w T (.slice (some ⟨g, 0, none⟩) n cap) zs) (k : Nat) (hk : k < n) (x : Int) : Own (w.setCell ⟨g, k, none⟩ (.int .u8 x)) T (.slice (some ⟨g, 0, none⟩) n cap) (zs.set k x) := by
  obtain ⟨hl, ⟨h0, _⟩ | ⟨g', cap', cur, e, hb, hg, h1, h2, h3, h4⟩⟩ := h
  · cases h0
  · obtain ⟨rfl, rfl, rfl⟩ : g = g' ∧ n = zs.length ∧ cap = cap' := by cases e; exact ⟨rfl, rfl, rfl⟩
    refine ⟨by rw [b8_len]; omega, .inr ⟨g, cap, cur.setIfInBounds k (.int .u8 x), by rw [List.length_set], hb, ?_, by rw [List.length_set]; exact h1, h2, by rw [Array.size_setIfInBounds]; exact h3, ?_⟩⟩
    · rw [heap_setCell_same w g k _ T _ hg]
    · rw [List.length_set, ← b8_set, ← h4]
      simp [List.take_set]
theorem Own.cell {w : World} {T : TypeId} {g n cap : Nat} {zs : List Int} (h : Own w T (.slice (some ⟨g, 0, none⟩) n cap) zs) (k : Nat) (hk : k < n) : w.cell? ⟨g, k, none⟩ = some (.int .u8 (zs.getD k 0)) ∧ w.frozen? ⟨g, k, none⟩ = false := by
  obtain ⟨hl, ⟨h0, _⟩ | ⟨g', cap', cur, e, hb, hg, h1, h2, h3, h4⟩⟩ := h
  · cases h0
  · obtain ⟨rfl, rfl, rfl⟩ : g = g' ∧ n = zs.length ∧ cap = cap' := by cases e; exact ⟨rfl, rfl, rfl⟩
    have h5 := b8_get zs k hk
    rw [← h4, List.getElem?_take, if_pos (by omega)] at h5
    refine ⟨?_, by simp [World.frozen?, hg]⟩
    simp only [World.cell?, hg]
    simpa using h5
def MidO (w : World) (T : TypeId) (v : Value) (n : Nat) (i : Value) (U : World) : Prop := ∃ (k : Nat) (ys : List Int), k ≤ n ∧ i = .int .i64 (k : Int) ∧ ys.length = n ∧ Own U T v ys ∧ Fr (fun k => v.ownBlock = some k) w U
set_option maxHeartbeats 1000000 in
/-- Bytes are written over: only they. -/
theorem over_any (w : World) (a : Option Addr) (n c : Nat) (zs : List Int) (h : Own w 5 (.slice a n c) zs) (hn : n ≤ 1099511627776) :
    Calls Tryd.prog 29 #[.slice a n c] w fun e w' => e = .returned (.tuple #[]) ∧ (∃ ys, ys.length = n ∧ Own w' 5 (.slice a n c) ys) ∧ Fr (fun k => (Value.slice a n c).ownBlock = some k) w w' := by
  have hl : zs.length = n := by obtain ⟨_, _, e, _⟩ := h.bin; cases e; rfl
  by_cases h0 : n = 0
  · subst h0
    have HH := WirS.hide h
    have HL := WirS.hide hl
    clear h hl
    go_enter Tryd.func29, Tryd.ntmps29
    go_wp2_with fail
    refine wp_loop_rounds 1 ?_
    rw [rounds_succ]
    go_wp2_with fail
    first | go_end0 | refine bodyPost_ret (results_none rfl _ _ _) rfl ?_
    exact ⟨rfl, ⟨zs, HL.out, HH.out⟩, Fr.refl _ _⟩
  · obtain ⟨g, rfl⟩ : ∃ g, a = some ⟨g, 0, none⟩ := by
      obtain ⟨_, ⟨e, _⟩ | ⟨g, _, _, e, _⟩⟩ := h
      · cases e; exact absurd rfl h0
      · cases e; exact ⟨g, rfl⟩
    have HH := WirS.hide h
    have HL := WirS.hide hl
    clear h hl
    go_enter Tryd.func29, Tryd.ntmps29
    go_wp2_with fail
    go_loopw [2] (fun i wr => MidO w 5 (.slice (some ⟨g, 0, none⟩) n c) n i wr) (fun i _ => n - (intOf i).toNat)
    case atStart => exact ⟨0, zs, Nat.zero_le _, rfl, HL.out, HH.out, Fr.refl _ _⟩
    case round =>
      obtain ⟨k, ys, hk, rfl, hy, ho, hf⟩ := hrel
      by_cases hlt : k < n
      · obtain ⟨ck, fk⟩ := Own.cell ho k hlt
        have HO := WirS.hide ho
        have HF := WirS.hide hf
        have HY := WirS.hide hy
        generalize ys.getD k 0 = x at ck
        clear ho hf hy
        go_wp2_with fail
        go_roundw
        case rel => exact ⟨k + 1, ys.set k (bits .xor .u8 x 165), by omega, by go_num, by rw [List.length_set]; exact HY.out, Own.set HO.out k hlt _, HF.out.setCell g k _ (fun _ => rfl)⟩
        case measure => simp [intOf]; omega
      · have HO := WirS.hide ho
        have HF := WirS.hide hf
        have HY := WirS.hide hy
        clear ho hf hy
        go_wp2_with fail
        first | go_end0 | refine bodyPost_ret (results_none rfl _ _ _) rfl ?_
        exact ⟨rfl, ⟨ys, HY.out, HO.out⟩, HF.out⟩
/-- A place among n. -/
def pick (i n : Int) : Int := if i.tmod n < 0 then i.tmod n + n else i.tmod n
theorem pick_range (i n : Int) (hn : 0 < n) : 0 ≤ pick i n ∧ pick i n < n := by
  have h1 := Int.tmod_lt_of_pos i hn
  have h2 : -n < i.tmod n := Int.neg_lt_of_neg_lt (by have := Int.tmod_lt_of_pos (-i) hn; rw [Int.neg_tmod] at this; exact this)
  unfold pick
  split <;> omega
theorem pick_any (w : World) (i n : Int) (hn : 0 < n) (hn2 : n ≤ 1099511627776) :
    Calls Tryd.prog 27 #[.int .i64 i, .int .i64 n] w fun e w' => e = .returned (.int .i64 (pick i n)) ∧ w = w' := by
  have hr := pick_range i n hn
  have hm : -n < i.tmod n ∧ i.tmod n < n := by
    have h1 := Int.tmod_lt_of_pos i hn
    have h2 : -n < i.tmod n := Int.neg_lt_of_neg_lt (by have := Int.tmod_lt_of_pos (-i) hn; rw [Int.neg_tmod] at this; exact this)
    exact ⟨h2, h1⟩
  have hn3 : ¬ n ≤ 0 := by omega
  have hn4 : (n == 0) = false := by simp; omega
  have hn5 : (n == -1) = false := by simp; omega
  unfold pick at hr ⊢
  have HR := WirS.hide hr
  clear hr
  generalize hq : i.tmod n = q at hm ⊢
  by_cases hneg : q < 0
  · rw [if_pos hneg]
    go_enter Tryd.func27, Tryd.ntmps27
    go_wp2
    go_ret
    exact ⟨rfl, rfl⟩
  · rw [if_neg hneg]
    go_enter Tryd.func27, Tryd.ntmps27
    go_wp2
    go_ret
    exact ⟨rfl, rfl⟩
end KitB
end Go.Proofs.YtfmegeibnjmfpaaDoor

namespace Go.Proofs.YtfmegeibnjmfpaaDoor
namespace KitC
open Go.RowKit
open BlkM WirM WirS KitB

theorem ownNew (w : World) : Own (w.alloc (.cells #[] 5)) 5 (.slice (some ⟨w.heap.size, 0, none⟩) 0 0) [] := World.ownsRow_made w #[] 0 (Nat.zero_le _) (Nat.zero_le _) (by simp)
def NewB (w : World) (x : Value) : Prop := ∀ k, x.ownBlock = some k → w.heap.size ≤ k
theorem len_of {w : World} {T : TypeId} {v : Value} {zs : List Int} (h : Own w T v zs) : ∃ a cap, v = .slice a zs.length cap := by
  obtain ⟨a, cap, rfl, _⟩ := h.bin
  exact ⟨a, cap, rfl⟩
theorem copy_any (w : World) (a : Option Addr) (n c : Nat) (zs : List Int) (h : BIn w (.slice a n c) zs) (hn : n ≤ 1099511627776) :
    Calls Tryd.prog 28 #[.slice a n c] w fun e w' => ∃ va vn vc, e = .returned (.slice va vn vc) ∧ Own w' 5 (.slice va vn vc) zs ∧ NewB w (.slice va vn vc) ∧ Below w.heap.size w w' := by
  have hnl : n = zs.length := by obtain ⟨_, _, e, _⟩ := h; cases e; rfl
  obtain ⟨i0, hi, hz0, hz1, hz2⟩ := info_parts (show (Tryd.prog.info? 5).map (fun i => (i.zero, i.size, i.bytes)) = some (some (.int .u8 0), 1, 1) by kernel_rfl)
  have hb : Below w.heap.size w (w.alloc (.cells #[] 5)) := Below.alloc (Below.refl _ _) (Nat.le_refl _) _
  obtain ⟨v1, u1, r1, o1, f1, n1⟩ := app_any (P := Tryd.prog) (w.alloc (.cells #[] 5)) 22 22 22 5 i0 _ Tryd.underlying22 hi hz0 hz1 hz2 rfl (.slice (some ⟨w.heap.size, 0, none⟩) 0 0) (.slice a n c) [] zs (ownNew w) ((h.below hb).src Tryd.underlying22) (by simp; omega)
  have HB := WirS.hide (hb.trans (f1.below (B := w.heap.size) (by simp) (fun k hk hx => by simp [Value.ownBlock] at hx; omega)))
  have HN := WirS.hide (show NewB w v1 from fun k hk => by
    rcases n1 k hk with hx | hx
    · simp [Value.ownBlock] at hx
      omega
    · simp at hx
      omega)
  rw [List.nil_append] at o1
  have HO := WirS.hide o1
  clear hb f1 n1 o1 h hi hz0 hz1 hz2 hnl
  go_enter Tryd.func28, Tryd.ntmps28
  go_upto_region 1 with fail
  refine wp_region_lit ?_
  refine sV (.slice (some ⟨w.heap.size, 0, none⟩) 0 0) (w.alloc (.cells #[] 5)) (by kernel_rfl) (by kernel_rfl) ?_
  simp only [Act.put, List.setIfInBounds_toArray, List.set_cons_succ, List.set_cons_zero]
  refine sV (.slice a n c) (w.alloc (.cells #[] 5)) (by kernel_rfl) (by kernel_rfl) ?_
  simp only [Act.put, List.setIfInBounds_toArray, List.set_cons_succ, List.set_cons_zero]
  refine sA (by kernel_rfl) 22 22 _ _ (by rfl) (.slice (some ⟨w.heap.size, 0, none⟩) 0 0) (.slice a n c) (by kernel_rfl) (by kernel_rfl) (v1) (u1) r1 ?_
  simp only [Act.put, List.setIfInBounds_toArray, List.set_cons_succ, List.set_cons_zero]
  clear r1
  obtain ⟨a2, c2, e2⟩ := len_of HO.out
  obtain ⟨n2, hn2⟩ : ∃ n2, n2 = zs.length := ⟨_, rfl⟩
  rw [← hn2] at e2
  subst e2
  clear hn2
  go_wp2_with fail
  go_ret
  exact ⟨a2, n2, c2, rfl, HO.out, HN.out, HB.out⟩
end KitC
end Go.Proofs.YtfmegeibnjmfpaaDoor

