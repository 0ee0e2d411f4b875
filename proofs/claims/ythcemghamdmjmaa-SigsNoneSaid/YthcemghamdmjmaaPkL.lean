/-
  WirBE, WirAB, KitB, KitC, in one text.
-/
import Derived.Test.YthcemghamdmjmaaPkG
import Derived.ChangeKeysEq
import Derived.Test.YthcemghamdmjmaaPkA
namespace Go.Proofs.Ythcemghamdmjmaa
namespace WirBE
open Go.RowKit Go.Lib
open BlkM WirM WirS WirP

theorem part8 (l : List Int) (i : Nat) (h : i < l.length) (W : World) : (part 5 (b8 l).toArray (i * 1)).run Try.prog W = .ok (.int .u8 (l.getD i 0)) W := by
  have hg := b8_get l i h
  have hb : i < (b8 l).length := by rw [b8_len]; exact h
  rw [List.getElem?_eq_getElem hb] at hg
  have h1 : (b8 l)[i] = Value.int .u8 (l.getD i 0) := Option.some.inj hg
  have ha : (isAgg 5).run Try.prog W = .ok false W := by kernel_rfl
  simp [part, Sem.run_bind, ha, hb, h1]
theorem eqItems8 (l m : List Int) (hl : l.length = 32) (hm : m.length = 32) (d : Nat) (W : World) : ∀ is : List Nat, (∀ i ∈ is, i < 32) →
    (Op.eqItems (d + 1) 5 1 (b8 l).toArray (b8 m).toArray is).run Try.prog W = .ok (decide (∀ i ∈ is, l.getD i 0 = m.getD i 0)) W
  | [], _ => by simp [Op.eqItems]
  | i :: is, h => by
    have h1 := part8 l i (by rw [hl]; exact h i (by simp)) W
    have h2 := part8 m i (by rw [hm]; exact h i (by simp)) W
    have h3 := eqItems8 l m hl hm d W is (fun j hj => h j (by simp [hj]))
    have h4 : (Op.equalIn (d + 1) 5 (.int .u8 (l.getD i 0)) (.int .u8 (m.getD i 0))).run Try.prog W = .ok (l.getD i 0 == m.getD i 0) W := by
      simp [Op.equalIn, run_underlying Try.underlying5]
    simp only [Op.eqItems, Sem.run_bind, h1, h2, h4, Result.andThen_ok]
    by_cases e : l.getD i 0 = m.getD i 0
    · have hiff : (∀ j ∈ i :: is, l.getD j 0 = m.getD j 0) ↔ (∀ j ∈ is, l.getD j 0 = m.getD j 0) := ⟨fun h j hj => h j (List.mem_cons_of_mem _ hj), fun h j hj => (List.mem_cons.1 hj).elim (fun x => by rw [x]; exact e) (h j)⟩
      rw [show (l.getD i 0 == m.getD i 0) = true from beq_iff_eq.2 e]
      simp only [Bool.not_true, Bool.false_eq_true, if_false, h3, hiff]
    · have e2 : (l.getD i 0 == m.getD i 0) = false := by simpa using e
      have hf : ¬ (∀ j ∈ i :: is, l.getD j 0 = m.getD j 0) := fun h => e (h i (List.mem_cons_self))
      rw [e2, decide_eq_false hf]
      simp
theorem ext32 {l m : List Int} (hl : l.length = 32) (hm : m.length = 32) : (∀ i ∈ List.range 32, l.getD i 0 = m.getD i 0) ↔ l = m := by
  constructor
  · intro h
    apply List.ext_getElem (by omega)
    intro i h1 h2
    have := h i (List.mem_range.2 (by omega))
    rw [List.getD_eq_getElem?_getD, List.getElem?_eq_getElem h1, List.getD_eq_getElem?_getD, List.getElem?_eq_getElem h2] at this
    exact this
  · rintro rfl i _
    rfl
theorem eqHg (l m : List Int) (hl : l.length = 32) (hm : m.length = 32) (W : World) : (binOp .eql 34 (.agg (b8 l).toArray) (.agg (b8 m).toArray)).run Try.prog W = .ok (.bool (decide (l = m))) W := by
  have hi : (Try.prog.info? 5).isSome = true := by kernel_rfl
  obtain ⟨i, hi⟩ := Option.isSome_iff_exists.1 hi
  have hc : Try.prog.cellsOf 5 = 1 := by kernel_rfl
  have h : (Op.equalIn (9998 + 1 + 1) 34 (.agg (b8 l).toArray) (.agg (b8 m).toArray)).run Try.prog W = .ok (decide (l = m)) W := by
    rw [run_equalIn_array W (9998 + 1) (b8 l).toArray (b8 m).toArray Try.underlying34 hi, hc, eqItems8 l m hl hm 9998 W (List.range 32) (fun i hi => List.mem_range.1 hi)]
    simp only [ext32 hl hm]
  simp only [binOp]
  simp [Op.equal, Op.maxDepth, h]
theorem eqItems4 (l m : List Int) (hl : l.length = 4) (hm : m.length = 4) (d : Nat) (W : World) : ∀ is : List Nat, (∀ i ∈ is, i < 4) →
    (Op.eqItems (d + 1) 5 1 (b8 l).toArray (b8 m).toArray is).run Try.prog W = .ok (decide (∀ i ∈ is, l.getD i 0 = m.getD i 0)) W
  | [], _ => by simp [Op.eqItems]
  | i :: is, h => by
    have h1 := part8 l i (by rw [hl]; exact h i (by simp)) W
    have h2 := part8 m i (by rw [hm]; exact h i (by simp)) W
    have h3 := eqItems4 l m hl hm d W is (fun j hj => h j (by simp [hj]))
    have h4 : (Op.equalIn (d + 1) 5 (.int .u8 (l.getD i 0)) (.int .u8 (m.getD i 0))).run Try.prog W = .ok (l.getD i 0 == m.getD i 0) W := by
      simp [Op.equalIn, run_underlying Try.underlying5]
    simp only [Op.eqItems, Sem.run_bind, h1, h2, h4, Result.andThen_ok]
    by_cases e : l.getD i 0 = m.getD i 0
    · have hiff : (∀ j ∈ i :: is, l.getD j 0 = m.getD j 0) ↔ (∀ j ∈ is, l.getD j 0 = m.getD j 0) := ⟨fun h j hj => h j (List.mem_cons_of_mem _ hj), fun h j hj => (List.mem_cons.1 hj).elim (fun x => by rw [x]; exact e) (h j)⟩
      rw [show (l.getD i 0 == m.getD i 0) = true from beq_iff_eq.2 e]
      simp only [Bool.not_true, Bool.false_eq_true, if_false, h3, hiff]
    · have e2 : (l.getD i 0 == m.getD i 0) = false := by simpa using e
      have hf : ¬ (∀ j ∈ i :: is, l.getD j 0 = m.getD j 0) := fun h => e (h i (List.mem_cons_self))
      rw [e2, decide_eq_false hf]
      simp
theorem ext4 {l m : List Int} (hl : l.length = 4) (hm : m.length = 4) : (∀ i ∈ List.range 4, l.getD i 0 = m.getD i 0) ↔ l = m := by
  constructor
  · intro h
    apply List.ext_getElem (by omega)
    intro i h1 h2
    have := h i (List.mem_range.2 (by omega))
    rw [List.getD_eq_getElem?_getD, List.getElem?_eq_getElem h1, List.getD_eq_getElem?_getD, List.getElem?_eq_getElem h2] at this
    exact this
  · rintro rfl i _
    rfl
theorem eqKg (l m : List Int) (hl : l.length = 4) (hm : m.length = 4) (W : World) : (binOp .eql 36 (.agg (b8 l).toArray) (.agg (b8 m).toArray)).run Try.prog W = .ok (.bool (decide (l = m))) W := by
  have hi : (Try.prog.info? 5).isSome = true := by kernel_rfl
  obtain ⟨i, hi⟩ := Option.isSome_iff_exists.1 hi
  have hc : Try.prog.cellsOf 5 = 1 := by kernel_rfl
  have h : (Op.equalIn (9998 + 1 + 1) 36 (.agg (b8 l).toArray) (.agg (b8 m).toArray)).run Try.prog W = .ok (decide (l = m)) W := by
    rw [run_equalIn_array W (9998 + 1) (b8 l).toArray (b8 m).toArray Try.underlying36 hi, hc, eqItems4 l m hl hm 9998 W (List.range 4) (fun i hi => List.mem_range.1 hi)]
    simp only [ext4 hl hm]
  simp only [binOp]
  simp [Op.equal, Op.maxDepth, h]
theorem eqH (h : List Int) (lh : h.length = 32) (x : List Int) (lx : x.length = 32) (W : World) : (binOp .eql 34 (aggB x) (.agg (b8 h).toArray)).run Try.prog W = .ok (.bool (decide (x = h))) W := eqHg x h lx lh W
theorem eqK (k : List Int) (lk : k.length = 4) (x : List Int) (lx : x.length = 4) (W : World) : (binOp .eql 36 (aggB x) (.agg (b8 k).toArray)).run Try.prog W = .ok (.bool (decide (x = k))) W := eqKg x k lx lk W
end WirBE
end Go.Proofs.Ythcemghamdmjmaa

namespace Go.Proofs.Ythcemghamdmjmaa
namespace WirAB
open Go.RowKit PaceA FltC
open BlkM WirM WirS WirA WirB WirC WirD WirE WirF WirG WirH WirI WirJ WirK WirL WirN WirO WirP WirQ WirR WirT WirU WirV WirW WirX WirZ WirNA WirRT WirAA

/-- What 'again' leaves: written as it was, or a fault. -/
def Ag (w0 : World) (l : List Thg) (R : Nat) (a : Option Addr) (c : Nat) (bs : List Int) (at' W : Nat) (lim : Int) (e : Ending) (w' : World) : Prop :=
  (e = .returned (.bool true) ∧ ∃ p v', at' ≤ p ∧ p ≤ bs.length ∧ Bag w0 w' (rdr R a c bs p 0 0 :: wtr W lim v' (bs.take p) 0 :: l)) ∨
  (e = .returned (.bool false) ∧ ∃ p fe fa, fe ≠ 0 ∧ Bag w0 w' (rdr R a c bs p fe fa :: l))
def thing0 (k : Int) : Td := ⟨k, 0, .slice none 0 0, zz 32, zz 4, 0, false, by simp [zz], by simp [zz]⟩
theorem t0_len (k : Int) : (thing0 k).cells.length = 41 := Td.len _
theorem one_cells (t : Td) (h : t.v.oneCell' = true) : ∀ x ∈ t.cells, x.oneCell' = true := by
  intro x hx
  simp only [Td.cells, List.mem_cons, List.mem_append, List.not_mem_nil, or_false] at hx
  rcases hx with rfl | rfl | rfl | hx | hx | rfl | rfl
  · rfl
  · rfl
  · exact h
  · exact one_b8 _ x hx
  · exact one_b8 _ x hx
  · rfl
  · rfl
/-- A thing that was read between two places. -/
structure Okt (t : Td) (va : Option Addr) (vn vc : Nat) (zs bs : List Int) (at' p : Nat) : Prop where
  hk : 0 ≤ t.kd ∧ t.kd ≤ 7
  hn : 0 ≤ t.n
  n1 : t.n ≤ 9223372036854775807
  u0 : 0 ≤ t.u
  u1 : t.u < 18446744073709551616
  hv : t.v = .slice va vn vc
  rz : rng zs
  len : zs.length ≤ bs.length
  fit : Fits bs at' p (form t zs)
theorem ok_num {bs : List Int} {at' p : Nat} {x : Int} (hr : rng bs) (h : numO bs at' = .inr (x, p)) : Okt { thing0 0 with n := x } none 0 0 [] bs at' p := by
  obtain ⟨h0, h1, hf⟩ := num_fits hr h
  exact ⟨⟨Int.le_refl _, by show (0 : Int) ≤ 7; decide⟩, h0, by show x ≤ _; omega, Int.le_refl _, by show (0 : Int) < _; decide, rfl, (fun _ h => by cases h), Nat.zero_le _, by simpa [form, thing0] using hf⟩
theorem ok_sized {bs : List Int} {at' p : Nat} {zs : List Int} {most : Int} (k : Int) (hk : k = 1 ∨ k = 2) (va : Option Addr) (vn vc : Nat) (hr : rng bs) (h : sizedO bs at' most = .inr (zs, p)) : Okt { thing0 k with v := .slice va vn vc } va vn vc zs bs at' p := by
  obtain ⟨h0, h1, hf⟩ := sized_fits hr h
  refine ⟨⟨by show 0 ≤ k; omega, by show k ≤ 7; omega⟩, Int.le_refl _, by show (0 : Int) ≤ _; decide, Int.le_refl _, by show (0 : Int) < _; decide, rfl, h0, h1, ?_⟩
  rcases hk with rfl | rfl
  · simpa [form, thing0] using hf
  · simpa [form, thing0] using hf
theorem ok_hash {bs : List Int} {at' p : Nat} {x : List Int} (h : rowO 32 bs at' = .inr (x, p)) (hl : x.length = 32) : Okt { thing0 3 with h := x, lh := hl } none 0 0 [] bs at' p := by
  obtain ⟨_, hf⟩ := row_fits h
  exact ⟨⟨by show (0 : Int) ≤ 3; decide, by show (3 : Int) ≤ 7; decide⟩, Int.le_refl _, by show (0 : Int) ≤ _; decide, Int.le_refl _, by show (0 : Int) < _; decide, rfl, (fun _ h => by cases h), Nat.zero_le _, by simpa [form, thing0] using hf⟩
theorem ok_key {bs : List Int} {at' p : Nat} {x : List Int} (h : rowO 4 bs at' = .inr (x, p)) (hl : x.length = 4) : Okt { thing0 4 with k := x, lk := hl } none 0 0 [] bs at' p := by
  obtain ⟨_, hf⟩ := row_fits h
  exact ⟨⟨by show (0 : Int) ≤ 4; decide, by show (4 : Int) ≤ 7; decide⟩, Int.le_refl _, by show (0 : Int) ≤ _; decide, Int.le_refl _, by show (0 : Int) < _; decide, rfl, (fun _ h => by cases h), Nat.zero_le _, by simpa [form, thing0] using hf⟩
theorem ok_word {bs : List Int} {at' p : Nat} {x : Int} (hr : rng bs) (h : wordO bs at' = .inr (x, p)) : Okt { thing0 5 with u := x } none 0 0 [] bs at' p := by
  obtain ⟨h0, h1, hf⟩ := word_fits hr h
  exact ⟨⟨by show (0 : Int) ≤ 5; decide, by show (5 : Int) ≤ 7; decide⟩, Int.le_refl _, by show (0 : Int) ≤ _; decide, h0, h1, rfl, (fun _ h => by cases h), Nat.zero_le _, by simpa [form, thing0] using hf⟩
theorem ok_pace {bs : List Int} {at' p : Nat} {x : Nat} (hr : rng bs) (h : paceO bs at' = .inr (x, p)) : Okt { thing0 6 with u := (x : Int) } none 0 0 [] bs at' p := by
  obtain ⟨h0, h1, hf⟩ := pace_fits hr h
  exact ⟨⟨by show (0 : Int) ≤ 6; decide, by show (6 : Int) ≤ 7; decide⟩, Int.le_refl _, by show (0 : Int) ≤ _; decide, by show 0 ≤ (x : Int); omega, by show (x : Int) < _; omega, rfl, (fun _ h => by cases h), Nat.zero_le _, by simpa [form, thing0, h1] using hf⟩
theorem ok_bool {bs : List Int} {at' p : Nat} {x : Bool} (hr : rng bs) (h : boolO bs at' = .inr (x, p)) : Okt { thing0 7 with is := x } none 0 0 [] bs at' p := by
  have hf := bool_fits hr h
  exact ⟨⟨by show (0 : Int) ≤ 7; decide, Int.le_refl _⟩, Int.le_refl _, by show (0 : Int) ≤ _; decide, Int.le_refl _, by show (0 : Int) < _; decide, rfl, (fun _ h => by cases h), Nat.zero_le _, by simpa [form, thing0] using hf⟩
/-- Bytes, read only. -/
def binb (v : Value) (zs : List Int) : Thg where
  ok w := BIn w v zs ∧ ∀ k, v.ownBlock = some k → k < w.heap.size
  foot k := v.ownBlock = some k
  stable h hf hX := ⟨h.1.fr hf hX, fun k hk => Nat.lt_of_lt_of_le (h.2 k hk) hf.size⟩
  inside h k hk := h.2 k hk
theorem bag_binb {w0 w : World} {l : List Thg} {v : Value} {zs : List Int} (h : Bag w0 w (own v zs :: l)) : Bag w0 w (binb v zs :: l) :=
  h.act (Fr.refl _ w) ⟨Own.bin h.head, Own.lt h.head⟩ (fun _ hk => .inl hk)
theorem bag_nil {w0 w : World} {l : List Thg} (h : Bag w0 w l) : Bag w0 w (binb (.slice none 0 0) [] :: l) := h.new (Below.refl _ _) ⟨BIn.nil w, fun k hk => by cases hk⟩ (fun k hk => by cases hk)
theorem bag_bw {w0 w : World} {l : List Thg} (h : Bag w0 w l) (s : ByteArray) (c : Nat) (hc : s.size ≤ c) : Bag w0 (Lib.bytesWorld w 5 s) (binb (.slice (some ⟨w.heap.size, 0, none⟩) s.size c) (tb s) :: l) :=
  h.new (below_bw w s) ⟨bin_bw w s c hc, fun k hk => by cases hk; exact (Array.getElem?_eq_some_iff.1 (Lib.bytesWorld_at_new w 5 s)).1⟩ (fun k hk => by cases hk; exact Nat.le_refl _)
theorem turn3 {w0 w : World} {o1 o2 o3 : Thg} {l : List Thg} (h : Bag w0 w (o1 :: o2 :: o3 :: l)) : Bag w0 w (o3 :: o2 :: o1 :: l) :=
  h.perm ((List.Perm.swap _ _ _).trans ((List.Perm.cons _ (.swap _ _ _)).trans (.swap _ _ _)))
theorem there_at {w : World} {X : Nat} {T : TypeId} {cs : List Value} (h : At w X T cs) (o n : Nat) (hl : o + n ≤ cs.length) : w.there X o n := fun j hj =>
  ⟨by rw [h.cell, List.getElem?_eq_getElem (by omega)]; rfl, h.frozen _⟩
theorem sCx {P : Program} {ops : Array Oper} {rest : List Oper} {o : Oper} {a : Act} {w : World} {Q : Exit → Act → World → Prop} {f : FuncId} {args : Array Value} {R : Ending → World → Prop} (hw : Region.wanted o (yielded ops a.tmps) = true) (hrun : (execOp a.eval o).run P w = .ok (.enter f args) w)
    (hc : Calls P f args w R) (h : ∀ e w', R e w' → ∃ v, e = .returned v ∧ wpList P ops Q rest (a.put o.dst v) w') : wpList P ops Q (o :: rest) a w :=
  stepW hw fun _ hK => by
    unfold Oper.wp
    rw [hrun, Oper.upon_enter]
    exact hc.mono (by
      intro e w' hq
      obtain ⟨v, rfl, hh⟩ := h e w' hq
      exact hK _ _ hh)
theorem put_fit {w0 U : World} {l : List Thg} {W : Nat} {lim : Int} {v : Value} {bs : List Int} {at' p R : Nat} {a : Option Addr} {c X : Nat} {t : Td} {va : Option Addr} {vn vc : Nat} {zs : List Int}
    (hU : Bag w0 U (rdr R a c bs p 0 0 :: box 39 X t.cells :: binb (.slice va vn vc) zs :: wtr W lim v (bs.take at') 0 :: l)) (ho : Okt t va vn vc zs bs at' p) (hl : (bs.length : Int) ≤ lim) :
    Calls Try.prog 23 #[.pointer (some ⟨W, 0, none⟩), .agg t.cells.toArray] U (Ans 0 (Put w0 (rdr R a c bs p 0 0 :: box 39 X t.cells :: binb (.slice va vn vc) zs :: l) W lim (bs.take p))) := by
  have hR := hU.head
  have hsm := hR.small
  have hw := hU.drop.drop
  have hown := hw.head.1
  have hap : Apart W v (.slice va vn vc) := fun k hk => (List.pairwise_cons.1 hw.apart).1 (wtr W lim v (bs.take at') 0) (by simp) k hk
  have hlen := ho.len
  have := puts_bag w0 U _ W lim v (bs.take at') t va vn vc zs (hU.perm (List.perm_middle (l₁ := [_, _, _]))) ho.hk (fun _ => ho.hn) ⟨ho.hv, hown, ho.rz, by have := ho.hn; omega, ho.n1, ho.u0, ho.u1⟩ hap (by omega)
    (by rw [← List.length_append, ho.fit.2.2, List.length_take]; omega)
  rw [ho.fit.2.2] at this
  exact this
theorem fin_bag {w0 U : World} {o1 o2 o3 o4 : Thg} {l : List Thg} (h : Bag w0 U (o1 :: o2 :: o3 :: o4 :: l)) : Bag w0 U (o2 :: o1 :: l) :=
  (((h.perm (List.perm_middle (l₁ := [_, _]) (a := o3))).drop).perm (List.perm_middle (l₁ := [_, _]) (a := o4))).drop.swap
theorem bad_bag {w0 U : World} {o1 o2 o3 o4 : Thg} {l : List Thg} (h : Bag w0 U (o1 :: o2 :: o3 :: o4 :: l)) : Bag w0 U (o1 :: l) := h.swap.drop.swap.drop.swap.drop
set_option maxHeartbeats 1000000 in
theorem again0 (w0 w : World) (l : List Thg) (R : Nat) (a : Option Addr) (c : Nat) (bs : List Int) (at' W : Nat) (lim : Int) (v : Value) (h : Bag w0 w (rdr R a c bs at' 0 0 :: wtr W lim v (bs.take at') 0 :: l)) (hl : (bs.length : Int) ≤ lim) :
    Calls Try.prog 49 #[.pointer (some ⟨R, 0, none⟩), .pointer (some ⟨W, 0, none⟩), .int .i64 0] w (Ag w0 l R a c bs at' W lim) := by
  have H := WirS.hide h
  clear h
  go_enter Try.func49, Try.ntmps49
  go_upto_region 1 with fail
  refine wp_region_lit ?_
  refine sV (.int .i64 0) (w) (by kernel_rfl) (by kernel_rfl) ?_
  simp only [Act.put, List.setIfInBounds_toArray, List.set_cons_succ, List.set_cons_zero]
  refine sV (.agg (thing0 0).cells.toArray) (w) (by kernel_rfl) (by kernel_rfl) ?_
  simp only [Act.put, List.setIfInBounds_toArray, List.set_cons_succ, List.set_cons_zero]
  refine sV (.pointer (some ⟨w.heap.size, 0, none⟩)) (w.alloc (.cells (thing0 0).cells.toArray 39)) (by kernel_rfl) (by kernel_rfl) ?_
  simp only [Act.put, List.setIfInBounds_toArray, List.set_cons_succ, List.set_cons_zero]
  refine stepStore (by rfl) _ _ _ (by rfl) _ (thing0 0).cells (by kernel_rfl) (by kernel_rfl) (At.new w 39 (thing0 0).cells) 41 (by kernel_rfl) (t0_len 0) (t0_len 0) (all_oneCell_toArray (one_cells _ rfl)) ?_
  obtain ⟨W1, e1⟩ : ∃ Y, Y = (w.alloc (.cells (thing0 0).cells.toArray 39)).setRow w.heap.size (thing0 0).cells.toArray := ⟨_, rfl⟩
  have b1 : Bag w0 W1 (box 39 w.heap.size (thing0 0).cells :: rdr R a c bs at' 0 0 :: wtr W lim v (bs.take at') 0 :: l) := by
    rw [e1]
    exact bag_box H.out rfl ((At.new w _ _).put _) (Below.setRowOwn (Below.alloc (Below.refl _ _) (Nat.le_refl _) _) (Nat.le_refl _) _)
  rw [← e1]
  generalize w.heap.size = X at b1 ⊢
  have C := WirS.hide (b_num b1.swap)
  clear e1 H b1
  go_upto_region 19 with ((go_at_call 37; refine (C.out).mono ?_; rintro e w2 ⟨x, p, fe, fa, rfl, hb, hc⟩; have c1 : w2.cell? ⟨X, 1, none⟩ = some (.int .i64 0) := hb.swap.head.cell 1; have f1 := hb.swap.head.frozen 1; have HB := WirS.hide hb.swap; have HC0 := WirS.hide hc; clear hb hc))
  obtain ⟨W3, e3⟩ : ∃ Y, Y = w2.setCell ⟨X, 1, none⟩ (.int .i64 x) := ⟨_, rfl⟩
  rw [← e3]
  obtain ⟨t, et⟩ : ∃ t : Td, t = { thing0 0 with n := x } := ⟨_, rfl⟩
  have hb3 : Bag w0 W3 (rdr R a c bs p fe fa :: box 39 X t.cells :: binb (.slice none 0 0) [] :: wtr W lim v (bs.take at') 0 :: l) := by
    rw [e3, et]
    exact turn3 (bag_nil (bag_set HB.out 1 (.int .i64 x)))
  have HC : Hid ((fe = 0 ∧ fa = 0 ∧ Okt t none 0 0 [] bs at' p) ∨ fe ≠ 0) := WirS.hide (HC0.out.imp (fun ⟨h1, h2, h3⟩ => ⟨h1, h2, by rw [et]; exact ok_num hb3.head.bytes h3⟩) (fun h => h.1))
  have HB3 := WirS.hide hb3
  clear HB hb3 c1 f1 e3 HC0
  clear et
  have CE := WirS.hide (show Calls Try.prog 35 #[.pointer (some ⟨R, 0, none⟩)] W3 (BR w0 _ R a c bs (.agg #[.int .i64 (endE bs p fe), .int .i64 (endA bs p fe fa)]) p fe fa) from br_end HB3.out)
  generalize hE : endE bs p fe = E at CE
  generalize endA bs p fe fa = A at CE
  go_upto_region 20 with ((go_at_call 35; refine (CE.out).mono ?_; rintro e w4 ⟨rfl, hb⟩; have HB := WirS.hide (hb.more (Below.alloc (Below.refl _ _) (Nat.le_refl _) (.cells #[.int .i64 E, .int .i64 A] 55))); clear hb HB3 CE))
  obtain ⟨W5, e5⟩ : ∃ Y, Y = w4.alloc (.cells #[.int .i64 E, .int .i64 A] 55) := ⟨_, rfl⟩
  have c5 : W5.cell? ⟨w4.heap.size, 0, none⟩ = some (.int .i64 E) := by rw [e5]; exact (At.new w4 55 [.int .i64 E, .int .i64 A]).cell 0
  rw [← e5] at HB ⊢
  clear e5
  generalize w4.heap.size = F at c5 ⊢
  have hRest := WirS.hide (br_rest HB.out)
  have HL := WirS.hide hl
  have tl := t.len
  clear hl
  rcases HC.out with ⟨rfl, rfl, ho⟩ | hfe
  · have HF := WirS.hide ho.fit
    have HO := WirS.hide ho
    clear ho HC
    by_cases hpos : 0 < restN bs p 0
    · obtain rfl : 4 = E := by rw [← hE]; unfold endE; rw [if_pos hpos]
      have g1 : ∀ U, (binOp .gtr 3 (.int .i64 (restN bs p 0)) (.int .i64 0)).run Try.prog U = .ok (.bool true) U := fun U => by simp [binOp, Op.intCmp, hpos]
      clear hE hpos
      refine wp_region_lit ?_
      refine sV (.pointer (some ⟨F, 0, none⟩)) (W5) (by kernel_rfl) (by kernel_rfl) ?_
      simp only [Act.put, List.setIfInBounds_toArray, List.set_cons_succ, List.set_cons_zero]
      refine sP (by kernel_rfl) _ _ (by rfl) ⟨F, 0, none⟩ (by kernel_rfl) (.int .i64 4) c5 (by kernel_rfl) ?_
      simp only [Act.put, List.setIfInBounds_toArray, List.set_cons_succ, List.set_cons_zero]
      refine sV (.bool false) (W5) (by kernel_rfl) (by kernel_rfl) ?_
      simp only [Act.put, List.setIfInBounds_toArray, List.set_cons_succ, List.set_cons_zero]
      refine sV (.bool false) (W5) (by kernel_rfl) (by kernel_rfl) ?_
      simp only [Act.put, List.setIfInBounds_toArray, List.set_cons_succ, List.set_cons_zero]
      refine sV (.pointer (some ⟨F, 0, none⟩)) (W5) (by kernel_rfl) (by kernel_rfl) ?_
      simp only [Act.put, List.setIfInBounds_toArray, List.set_cons_succ, List.set_cons_zero]
      refine sP (by kernel_rfl) _ _ (by rfl) ⟨F, 0, none⟩ (by kernel_rfl) (.int .i64 4) c5 (by kernel_rfl) ?_
      simp only [Act.put, List.setIfInBounds_toArray, List.set_cons_succ, List.set_cons_zero]
      refine sV (.bool true) (W5) (by kernel_rfl) (by kernel_rfl) ?_
      simp only [Act.put, List.setIfInBounds_toArray, List.set_cons_succ, List.set_cons_zero]
      refine sV (.bool true) (W5) (by kernel_rfl) (by kernel_rfl) ?_
      simp only [Act.put, List.setIfInBounds_toArray, List.set_cons_succ, List.set_cons_zero]
      refine sV (.pointer (some ⟨R, 0, none⟩)) (W5) (by kernel_rfl) (by kernel_rfl) ?_
      simp only [Act.put, List.setIfInBounds_toArray, List.set_cons_succ, List.set_cons_zero]
      refine sC (by kernel_rfl) (by kernel_rfl) hRest.out ?_
      rintro w6 hb6
      simp only [Act.put, List.setIfInBounds_toArray, List.set_cons_succ, List.set_cons_zero]
      refine sB (by kernel_rfl) .gtr _ _ _ _ (by rfl) (.int .i64 (restN bs p 0)) (.int .i64 0) (by kernel_rfl) (by kernel_rfl) (.bool true) (g1 _) (by kernel_rfl) ?_
      simp only [Act.put, List.setIfInBounds_toArray, List.set_cons_succ, List.set_cons_zero]
      refine sV (.bool true) (w6) (by kernel_rfl) (by kernel_rfl) ?_
      simp only [Act.put, List.setIfInBounds_toArray, List.set_cons_succ, List.set_cons_zero]
      refine sV (.bool true) (w6) (by kernel_rfl) (by kernel_rfl) ?_
      simp only [Act.put, List.setIfInBounds_toArray, List.set_cons_succ, List.set_cons_zero]
      refine sV (.bool true) (w6) (by kernel_rfl) (by kernel_rfl) ?_
      simp only [Act.put, List.setIfInBounds_toArray, List.set_cons_succ, List.set_cons_zero]
      refine sV (.pointer (some ⟨W, 0, none⟩)) (w6) (by kernel_rfl) (by kernel_rfl) ?_
      simp only [Act.put, List.setIfInBounds_toArray, List.set_cons_succ, List.set_cons_zero]
      refine sL (by kernel_rfl) _ _ (by rfl) _ (by kernel_rfl) hb6.swap.head _ 41 Try.underlying39 rfl (by kernel_rfl) tl ?_
      simp only [Act.put, List.setIfInBounds_toArray, List.set_cons_succ, List.set_cons_zero]
      refine sC (by kernel_rfl) (by kernel_rfl) (put_fit hb6 HO.out HL.out) ?_
      rintro w7 ⟨v7, hb7⟩
      simp only [Act.put, List.setIfInBounds_toArray, List.set_cons_succ, List.set_cons_zero]
      refine sV (.bool true) (w7) (by kernel_rfl) (by kernel_rfl) ?_
      simp only [Act.put, List.setIfInBounds_toArray, List.set_cons_succ, List.set_cons_zero]
      refine sV (.bool true) (w7) (by kernel_rfl) (by kernel_rfl) ?_
      simp only [Act.put, List.setIfInBounds_toArray, List.set_cons_succ, List.set_cons_zero]
      refine sV (.bool true) (w7) (by kernel_rfl) (by kernel_rfl) ?_
      simp only [Act.put, List.setIfInBounds_toArray, List.set_cons_succ, List.set_cons_zero]
      have HB7 := WirS.hide hb7
      clear hb7 hb6 hRest HO c5 g1 tl
      go_wp2_with fail
      go_ret
      exact .inl ⟨rfl, p, v7, HF.out.1, HF.out.2.1, fin_bag HB7.out⟩
    · obtain rfl : 0 = E := by rw [← hE]; unfold endE; rw [if_neg hpos]
      clear hE hpos hRest
      refine wp_region_lit ?_
      refine sV (.pointer (some ⟨F, 0, none⟩)) (W5) (by kernel_rfl) (by kernel_rfl) ?_
      simp only [Act.put, List.setIfInBounds_toArray, List.set_cons_succ, List.set_cons_zero]
      refine sP (by kernel_rfl) _ _ (by rfl) ⟨F, 0, none⟩ (by kernel_rfl) (.int .i64 0) c5 (by kernel_rfl) ?_
      simp only [Act.put, List.setIfInBounds_toArray, List.set_cons_succ, List.set_cons_zero]
      refine sV (.bool true) (W5) (by kernel_rfl) (by kernel_rfl) ?_
      simp only [Act.put, List.setIfInBounds_toArray, List.set_cons_succ, List.set_cons_zero]
      refine sV (.bool true) (W5) (by kernel_rfl) (by kernel_rfl) ?_
      simp only [Act.put, List.setIfInBounds_toArray, List.set_cons_succ, List.set_cons_zero]
      with_reducible refine sS (by kernel_rfl) ?_
      simp only [Act.put, List.setIfInBounds_toArray, List.set_cons_succ, List.set_cons_zero]
      with_reducible refine sS (by kernel_rfl) ?_
      simp only [Act.put, List.setIfInBounds_toArray, List.set_cons_succ, List.set_cons_zero]
      with_reducible refine sS (by kernel_rfl) ?_
      simp only [Act.put, List.setIfInBounds_toArray, List.set_cons_succ, List.set_cons_zero]
      with_reducible refine sS (by kernel_rfl) ?_
      simp only [Act.put, List.setIfInBounds_toArray, List.set_cons_succ, List.set_cons_zero]
      with_reducible refine sS (by kernel_rfl) ?_
      simp only [Act.put, List.setIfInBounds_toArray, List.set_cons_succ, List.set_cons_zero]
      with_reducible refine sS (by kernel_rfl) ?_
      simp only [Act.put, List.setIfInBounds_toArray, List.set_cons_succ, List.set_cons_zero]
      with_reducible refine sS (by kernel_rfl) ?_
      simp only [Act.put, List.setIfInBounds_toArray, List.set_cons_succ, List.set_cons_zero]
      with_reducible refine sS (by kernel_rfl) ?_
      simp only [Act.put, List.setIfInBounds_toArray, List.set_cons_succ, List.set_cons_zero]
      refine sV (.bool true) (W5) (by kernel_rfl) (by kernel_rfl) ?_
      simp only [Act.put, List.setIfInBounds_toArray, List.set_cons_succ, List.set_cons_zero]
      refine sV (.bool true) (W5) (by kernel_rfl) (by kernel_rfl) ?_
      simp only [Act.put, List.setIfInBounds_toArray, List.set_cons_succ, List.set_cons_zero]
      refine sV (.pointer (some ⟨W, 0, none⟩)) (W5) (by kernel_rfl) (by kernel_rfl) ?_
      simp only [Act.put, List.setIfInBounds_toArray, List.set_cons_succ, List.set_cons_zero]
      refine sL (by kernel_rfl) _ _ (by rfl) _ (by kernel_rfl) HB.out.swap.head _ 41 Try.underlying39 rfl (by kernel_rfl) tl ?_
      simp only [Act.put, List.setIfInBounds_toArray, List.set_cons_succ, List.set_cons_zero]
      refine sC (by kernel_rfl) (by kernel_rfl) (put_fit HB.out HO.out HL.out) ?_
      rintro w7 ⟨v7, hb7⟩
      simp only [Act.put, List.setIfInBounds_toArray, List.set_cons_succ, List.set_cons_zero]
      refine sV (.bool true) (w7) (by kernel_rfl) (by kernel_rfl) ?_
      simp only [Act.put, List.setIfInBounds_toArray, List.set_cons_succ, List.set_cons_zero]
      refine sV (.bool true) (w7) (by kernel_rfl) (by kernel_rfl) ?_
      simp only [Act.put, List.setIfInBounds_toArray, List.set_cons_succ, List.set_cons_zero]
      refine sV (.bool true) (w7) (by kernel_rfl) (by kernel_rfl) ?_
      simp only [Act.put, List.setIfInBounds_toArray, List.set_cons_succ, List.set_cons_zero]
      have HB7 := WirS.hide hb7
      clear hb7 HB HO c5 tl
      go_wp2_with fail
      go_ret
      exact .inl ⟨rfl, p, v7, HF.out.1, HF.out.2.1, fin_bag HB7.out⟩
  · have hz : restN bs p fe = 0 := by unfold restN; rw [if_neg hfe]
    obtain rfl : fe = E := by rw [← hE]; unfold endE; rw [hz]; simp
    rw [hz] at hRest
    have hq : (fe == 0) = false := by simpa using hfe
    have HFE := WirS.hide hfe
    clear hE hz hfe HC
    by_cases h4 : fe = 4
    · subst h4
      go_wp2_with ((go_at_call 33; refine (hRest.out).mono ?_; rintro e w6 ⟨rfl, hb⟩; have HB6 := WirS.hide hb; clear hb))
      go_ret
      exact .inr ⟨rfl, p, 4, fa, HFE.out, bad_bag HB6.out⟩
    · have hq4 : (fe == 4) = false := by simpa using h4
      clear h4
      go_wp2_with fail
      go_ret
      exact .inr ⟨rfl, p, fe, fa, HFE.out, bad_bag HB.out⟩
set_option maxHeartbeats 1000000 in
theorem again1 (w0 w : World) (l : List Thg) (R : Nat) (a : Option Addr) (c : Nat) (bs : List Int) (at' W : Nat) (lim : Int) (v : Value) (h : Bag w0 w (rdr R a c bs at' 0 0 :: wtr W lim v (bs.take at') 0 :: l)) (hl : (bs.length : Int) ≤ lim) :
    Calls Try.prog 49 #[.pointer (some ⟨R, 0, none⟩), .pointer (some ⟨W, 0, none⟩), .int .i64 1] w (Ag w0 l R a c bs at' W lim) := by
  have H := WirS.hide h
  clear h
  go_enter Try.func49, Try.ntmps49
  go_upto_region 1 with fail
  refine wp_region_lit ?_
  refine sV (.int .i64 1) (w) (by kernel_rfl) (by kernel_rfl) ?_
  simp only [Act.put, List.setIfInBounds_toArray, List.set_cons_succ, List.set_cons_zero]
  refine sV (.agg (thing0 1).cells.toArray) (w) (by kernel_rfl) (by kernel_rfl) ?_
  simp only [Act.put, List.setIfInBounds_toArray, List.set_cons_succ, List.set_cons_zero]
  refine sV (.pointer (some ⟨w.heap.size, 0, none⟩)) (w.alloc (.cells (thing0 0).cells.toArray 39)) (by kernel_rfl) (by kernel_rfl) ?_
  simp only [Act.put, List.setIfInBounds_toArray, List.set_cons_succ, List.set_cons_zero]
  refine stepStore (by rfl) _ _ _ (by rfl) _ (thing0 1).cells (by kernel_rfl) (by kernel_rfl) (At.new w 39 (thing0 0).cells) 41 (by kernel_rfl) (t0_len 0) (t0_len 1) (all_oneCell_toArray (one_cells _ rfl)) ?_
  obtain ⟨W1, e1⟩ : ∃ Y, Y = (w.alloc (.cells (thing0 0).cells.toArray 39)).setRow w.heap.size (thing0 1).cells.toArray := ⟨_, rfl⟩
  have b1 : Bag w0 W1 (box 39 w.heap.size (thing0 1).cells :: rdr R a c bs at' 0 0 :: wtr W lim v (bs.take at') 0 :: l) := by
    rw [e1]
    exact bag_box H.out rfl ((At.new w _ _).put _) (Below.setRowOwn (Below.alloc (Below.refl _ _) (Nat.le_refl _) _) (Nat.le_refl _) _)
  rw [← e1]
  generalize w.heap.size = X at b1 ⊢
  have C := WirS.hide (b_text 1000 b1.swap)
  clear e1 H b1
  have hcv := fun W1 s => Lib.run_convert_string_bytes (P := Try.prog) W1 9 32 5 s Try.underlying9 Try.underlying32 Try.underlying5
  go_upto_region 19 with ((go_at_call 38; refine (C.out).mono ?_; rintro e w2 ⟨x, p, fe, fa, rfl, hb, hc⟩; have hn := (hb.swap.more (below_bw w2 (st x))).head; have c1 : (Lib.bytesWorld w2 5 (st x)).cell? ⟨X, 2, none⟩ = some (.slice none 0 0) := hn.cell 2; have f1 := hn.frozen 2; have HB := WirS.hide (turn3 (bag_bw hb.swap (st x) (grownCap w2 (st x).size 0 5) (grownCap_ge w2 (st x).size 0 5))); have HC0 := WirS.hide hc; clear hb hc hn))
  obtain ⟨va, hva⟩ : ∃ va : Option Addr, va = some ⟨w2.heap.size, 0, none⟩ := ⟨_, rfl⟩
  obtain ⟨vn, hvn⟩ : ∃ vn, vn = (st x).size := ⟨_, rfl⟩
  obtain ⟨vc, hvc⟩ : ∃ vc, vc = grownCap w2 (st x).size 0 5 := ⟨_, rfl⟩
  rw [← hva, ← hvc, ← hvn] at HB
  obtain ⟨W3, e3⟩ : ∃ Y, Y = (Lib.bytesWorld w2 5 (st x)).setCell ⟨X, 2, none⟩ (.slice va vn vc) := ⟨_, rfl⟩
  rw [← hva, ← hvc, ← hvn, ← e3]
  obtain ⟨t, et⟩ : ∃ t : Td, t = { thing0 1 with v := .slice va vn vc } := ⟨_, rfl⟩
  have hb3 : Bag w0 W3 (rdr R a c bs p fe fa :: box 39 X t.cells :: binb (.slice va vn vc) (tb (st x)) :: wtr W lim v (bs.take at') 0 :: l) := by
    rw [e3, et]
    have h2 := (bag_set HB.out.swap 2 (.slice va vn vc)).swap
    exact h2
  have HC : Hid ((fe = 0 ∧ fa = 0 ∧ Okt t va vn vc (tb (st x)) bs at' p) ∨ fe ≠ 0) := WirS.hide (HC0.out.imp (fun ⟨h1, h2, h3⟩ => ⟨h1, h2, by rw [et, tb_st x (sized_fits hb3.head.bytes h3).1]; exact ok_sized 1 (.inl rfl) va vn vc hb3.head.bytes h3⟩) (fun h => h.1))
  have HB3 := WirS.hide hb3
  clear HB hb3 c1 f1 e3 HC0 hva hvn hvc hcv
  clear et
  have CE := WirS.hide (show Calls Try.prog 35 #[.pointer (some ⟨R, 0, none⟩)] W3 (BR w0 _ R a c bs (.agg #[.int .i64 (endE bs p fe), .int .i64 (endA bs p fe fa)]) p fe fa) from br_end HB3.out)
  generalize hE : endE bs p fe = E at CE
  generalize endA bs p fe fa = A at CE
  go_upto_region 20 with ((go_at_call 35; refine (CE.out).mono ?_; rintro e w4 ⟨rfl, hb⟩; have HB := WirS.hide (hb.more (Below.alloc (Below.refl _ _) (Nat.le_refl _) (.cells #[.int .i64 E, .int .i64 A] 55))); clear hb HB3 CE))
  obtain ⟨W5, e5⟩ : ∃ Y, Y = w4.alloc (.cells #[.int .i64 E, .int .i64 A] 55) := ⟨_, rfl⟩
  have c5 : W5.cell? ⟨w4.heap.size, 0, none⟩ = some (.int .i64 E) := by rw [e5]; exact (At.new w4 55 [.int .i64 E, .int .i64 A]).cell 0
  rw [← e5] at HB ⊢
  clear e5
  generalize w4.heap.size = F at c5 ⊢
  have hRest := WirS.hide (br_rest HB.out)
  have HL := WirS.hide hl
  have tl := t.len
  clear hl
  rcases HC.out with ⟨rfl, rfl, ho⟩ | hfe
  · have HF := WirS.hide ho.fit
    have HO := WirS.hide ho
    clear ho HC
    by_cases hpos : 0 < restN bs p 0
    · obtain rfl : 4 = E := by rw [← hE]; unfold endE; rw [if_pos hpos]
      have g1 : ∀ U, (binOp .gtr 3 (.int .i64 (restN bs p 0)) (.int .i64 0)).run Try.prog U = .ok (.bool true) U := fun U => by simp [binOp, Op.intCmp, hpos]
      clear hE hpos
      refine wp_region_lit ?_
      refine sV (.pointer (some ⟨F, 0, none⟩)) (W5) (by kernel_rfl) (by kernel_rfl) ?_
      simp only [Act.put, List.setIfInBounds_toArray, List.set_cons_succ, List.set_cons_zero]
      refine sP (by kernel_rfl) _ _ (by rfl) ⟨F, 0, none⟩ (by kernel_rfl) (.int .i64 4) c5 (by kernel_rfl) ?_
      simp only [Act.put, List.setIfInBounds_toArray, List.set_cons_succ, List.set_cons_zero]
      refine sV (.bool false) (W5) (by kernel_rfl) (by kernel_rfl) ?_
      simp only [Act.put, List.setIfInBounds_toArray, List.set_cons_succ, List.set_cons_zero]
      refine sV (.bool false) (W5) (by kernel_rfl) (by kernel_rfl) ?_
      simp only [Act.put, List.setIfInBounds_toArray, List.set_cons_succ, List.set_cons_zero]
      refine sV (.pointer (some ⟨F, 0, none⟩)) (W5) (by kernel_rfl) (by kernel_rfl) ?_
      simp only [Act.put, List.setIfInBounds_toArray, List.set_cons_succ, List.set_cons_zero]
      refine sP (by kernel_rfl) _ _ (by rfl) ⟨F, 0, none⟩ (by kernel_rfl) (.int .i64 4) c5 (by kernel_rfl) ?_
      simp only [Act.put, List.setIfInBounds_toArray, List.set_cons_succ, List.set_cons_zero]
      refine sV (.bool true) (W5) (by kernel_rfl) (by kernel_rfl) ?_
      simp only [Act.put, List.setIfInBounds_toArray, List.set_cons_succ, List.set_cons_zero]
      refine sV (.bool true) (W5) (by kernel_rfl) (by kernel_rfl) ?_
      simp only [Act.put, List.setIfInBounds_toArray, List.set_cons_succ, List.set_cons_zero]
      refine sV (.pointer (some ⟨R, 0, none⟩)) (W5) (by kernel_rfl) (by kernel_rfl) ?_
      simp only [Act.put, List.setIfInBounds_toArray, List.set_cons_succ, List.set_cons_zero]
      refine sC (by kernel_rfl) (by kernel_rfl) hRest.out ?_
      rintro w6 hb6
      simp only [Act.put, List.setIfInBounds_toArray, List.set_cons_succ, List.set_cons_zero]
      refine sB (by kernel_rfl) .gtr _ _ _ _ (by rfl) (.int .i64 (restN bs p 0)) (.int .i64 0) (by kernel_rfl) (by kernel_rfl) (.bool true) (g1 _) (by kernel_rfl) ?_
      simp only [Act.put, List.setIfInBounds_toArray, List.set_cons_succ, List.set_cons_zero]
      refine sV (.bool true) (w6) (by kernel_rfl) (by kernel_rfl) ?_
      simp only [Act.put, List.setIfInBounds_toArray, List.set_cons_succ, List.set_cons_zero]
      refine sV (.bool true) (w6) (by kernel_rfl) (by kernel_rfl) ?_
      simp only [Act.put, List.setIfInBounds_toArray, List.set_cons_succ, List.set_cons_zero]
      refine sV (.bool true) (w6) (by kernel_rfl) (by kernel_rfl) ?_
      simp only [Act.put, List.setIfInBounds_toArray, List.set_cons_succ, List.set_cons_zero]
      refine sV (.pointer (some ⟨W, 0, none⟩)) (w6) (by kernel_rfl) (by kernel_rfl) ?_
      simp only [Act.put, List.setIfInBounds_toArray, List.set_cons_succ, List.set_cons_zero]
      refine sL (by kernel_rfl) _ _ (by rfl) _ (by kernel_rfl) hb6.swap.head _ 41 Try.underlying39 rfl (by kernel_rfl) tl ?_
      simp only [Act.put, List.setIfInBounds_toArray, List.set_cons_succ, List.set_cons_zero]
      refine sC (by kernel_rfl) (by kernel_rfl) (put_fit hb6 HO.out HL.out) ?_
      rintro w7 ⟨v7, hb7⟩
      simp only [Act.put, List.setIfInBounds_toArray, List.set_cons_succ, List.set_cons_zero]
      refine sV (.bool true) (w7) (by kernel_rfl) (by kernel_rfl) ?_
      simp only [Act.put, List.setIfInBounds_toArray, List.set_cons_succ, List.set_cons_zero]
      refine sV (.bool true) (w7) (by kernel_rfl) (by kernel_rfl) ?_
      simp only [Act.put, List.setIfInBounds_toArray, List.set_cons_succ, List.set_cons_zero]
      refine sV (.bool true) (w7) (by kernel_rfl) (by kernel_rfl) ?_
      simp only [Act.put, List.setIfInBounds_toArray, List.set_cons_succ, List.set_cons_zero]
      have HB7 := WirS.hide hb7
      clear hb7 hb6 hRest HO c5 g1 tl
      go_wp2_with fail
      go_ret
      exact .inl ⟨rfl, p, v7, HF.out.1, HF.out.2.1, fin_bag HB7.out⟩
    · obtain rfl : 0 = E := by rw [← hE]; unfold endE; rw [if_neg hpos]
      clear hE hpos hRest
      refine wp_region_lit ?_
      refine sV (.pointer (some ⟨F, 0, none⟩)) (W5) (by kernel_rfl) (by kernel_rfl) ?_
      simp only [Act.put, List.setIfInBounds_toArray, List.set_cons_succ, List.set_cons_zero]
      refine sP (by kernel_rfl) _ _ (by rfl) ⟨F, 0, none⟩ (by kernel_rfl) (.int .i64 0) c5 (by kernel_rfl) ?_
      simp only [Act.put, List.setIfInBounds_toArray, List.set_cons_succ, List.set_cons_zero]
      refine sV (.bool true) (W5) (by kernel_rfl) (by kernel_rfl) ?_
      simp only [Act.put, List.setIfInBounds_toArray, List.set_cons_succ, List.set_cons_zero]
      refine sV (.bool true) (W5) (by kernel_rfl) (by kernel_rfl) ?_
      simp only [Act.put, List.setIfInBounds_toArray, List.set_cons_succ, List.set_cons_zero]
      with_reducible refine sS (by kernel_rfl) ?_
      simp only [Act.put, List.setIfInBounds_toArray, List.set_cons_succ, List.set_cons_zero]
      with_reducible refine sS (by kernel_rfl) ?_
      simp only [Act.put, List.setIfInBounds_toArray, List.set_cons_succ, List.set_cons_zero]
      with_reducible refine sS (by kernel_rfl) ?_
      simp only [Act.put, List.setIfInBounds_toArray, List.set_cons_succ, List.set_cons_zero]
      with_reducible refine sS (by kernel_rfl) ?_
      simp only [Act.put, List.setIfInBounds_toArray, List.set_cons_succ, List.set_cons_zero]
      with_reducible refine sS (by kernel_rfl) ?_
      simp only [Act.put, List.setIfInBounds_toArray, List.set_cons_succ, List.set_cons_zero]
      with_reducible refine sS (by kernel_rfl) ?_
      simp only [Act.put, List.setIfInBounds_toArray, List.set_cons_succ, List.set_cons_zero]
      with_reducible refine sS (by kernel_rfl) ?_
      simp only [Act.put, List.setIfInBounds_toArray, List.set_cons_succ, List.set_cons_zero]
      with_reducible refine sS (by kernel_rfl) ?_
      simp only [Act.put, List.setIfInBounds_toArray, List.set_cons_succ, List.set_cons_zero]
      refine sV (.bool true) (W5) (by kernel_rfl) (by kernel_rfl) ?_
      simp only [Act.put, List.setIfInBounds_toArray, List.set_cons_succ, List.set_cons_zero]
      refine sV (.bool true) (W5) (by kernel_rfl) (by kernel_rfl) ?_
      simp only [Act.put, List.setIfInBounds_toArray, List.set_cons_succ, List.set_cons_zero]
      refine sV (.pointer (some ⟨W, 0, none⟩)) (W5) (by kernel_rfl) (by kernel_rfl) ?_
      simp only [Act.put, List.setIfInBounds_toArray, List.set_cons_succ, List.set_cons_zero]
      refine sL (by kernel_rfl) _ _ (by rfl) _ (by kernel_rfl) HB.out.swap.head _ 41 Try.underlying39 rfl (by kernel_rfl) tl ?_
      simp only [Act.put, List.setIfInBounds_toArray, List.set_cons_succ, List.set_cons_zero]
      refine sC (by kernel_rfl) (by kernel_rfl) (put_fit HB.out HO.out HL.out) ?_
      rintro w7 ⟨v7, hb7⟩
      simp only [Act.put, List.setIfInBounds_toArray, List.set_cons_succ, List.set_cons_zero]
      refine sV (.bool true) (w7) (by kernel_rfl) (by kernel_rfl) ?_
      simp only [Act.put, List.setIfInBounds_toArray, List.set_cons_succ, List.set_cons_zero]
      refine sV (.bool true) (w7) (by kernel_rfl) (by kernel_rfl) ?_
      simp only [Act.put, List.setIfInBounds_toArray, List.set_cons_succ, List.set_cons_zero]
      refine sV (.bool true) (w7) (by kernel_rfl) (by kernel_rfl) ?_
      simp only [Act.put, List.setIfInBounds_toArray, List.set_cons_succ, List.set_cons_zero]
      have HB7 := WirS.hide hb7
      clear hb7 HB HO c5 tl
      go_wp2_with fail
      go_ret
      exact .inl ⟨rfl, p, v7, HF.out.1, HF.out.2.1, fin_bag HB7.out⟩
  · have hz : restN bs p fe = 0 := by unfold restN; rw [if_neg hfe]
    obtain rfl : fe = E := by rw [← hE]; unfold endE; rw [hz]; simp
    rw [hz] at hRest
    have hq : (fe == 0) = false := by simpa using hfe
    have HFE := WirS.hide hfe
    clear hE hz hfe HC
    by_cases h4 : fe = 4
    · subst h4
      go_wp2_with ((go_at_call 33; refine (hRest.out).mono ?_; rintro e w6 ⟨rfl, hb⟩; have HB6 := WirS.hide hb; clear hb))
      go_ret
      exact .inr ⟨rfl, p, 4, fa, HFE.out, bad_bag HB6.out⟩
    · have hq4 : (fe == 4) = false := by simpa using h4
      clear h4
      go_wp2_with fail
      go_ret
      exact .inr ⟨rfl, p, fe, fa, HFE.out, bad_bag HB.out⟩
set_option maxHeartbeats 1000000 in
theorem again2 (w0 w : World) (l : List Thg) (R : Nat) (a : Option Addr) (c : Nat) (bs : List Int) (at' W : Nat) (lim : Int) (v : Value) (h : Bag w0 w (rdr R a c bs at' 0 0 :: wtr W lim v (bs.take at') 0 :: l)) (hl : (bs.length : Int) ≤ lim) :
    Calls Try.prog 49 #[.pointer (some ⟨R, 0, none⟩), .pointer (some ⟨W, 0, none⟩), .int .i64 2] w (Ag w0 l R a c bs at' W lim) := by
  have H := WirS.hide h
  clear h
  go_enter Try.func49, Try.ntmps49
  go_upto_region 1 with fail
  refine wp_region_lit ?_
  refine sV (.int .i64 2) (w) (by kernel_rfl) (by kernel_rfl) ?_
  simp only [Act.put, List.setIfInBounds_toArray, List.set_cons_succ, List.set_cons_zero]
  refine sV (.agg (thing0 2).cells.toArray) (w) (by kernel_rfl) (by kernel_rfl) ?_
  simp only [Act.put, List.setIfInBounds_toArray, List.set_cons_succ, List.set_cons_zero]
  refine sV (.pointer (some ⟨w.heap.size, 0, none⟩)) (w.alloc (.cells (thing0 0).cells.toArray 39)) (by kernel_rfl) (by kernel_rfl) ?_
  simp only [Act.put, List.setIfInBounds_toArray, List.set_cons_succ, List.set_cons_zero]
  refine stepStore (by rfl) _ _ _ (by rfl) _ (thing0 2).cells (by kernel_rfl) (by kernel_rfl) (At.new w 39 (thing0 0).cells) 41 (by kernel_rfl) (t0_len 0) (t0_len 2) (all_oneCell_toArray (one_cells _ rfl)) ?_
  obtain ⟨W1, e1⟩ : ∃ Y, Y = (w.alloc (.cells (thing0 0).cells.toArray 39)).setRow w.heap.size (thing0 2).cells.toArray := ⟨_, rfl⟩
  have b1 : Bag w0 W1 (box 39 w.heap.size (thing0 2).cells :: rdr R a c bs at' 0 0 :: wtr W lim v (bs.take at') 0 :: l) := by
    rw [e1]
    exact bag_box H.out rfl ((At.new w _ _).put _) (Below.setRowOwn (Below.alloc (Below.refl _ _) (Nat.le_refl _) _) (Nat.le_refl _) _)
  rw [← e1]
  generalize w.heap.size = X at b1 ⊢
  have C := WirS.hide (b_bytes 1000 b1.swap)
  clear e1 H b1
  go_upto_region 19 with ((go_at_call 39; refine (C.out).mono ?_; rintro e w2 ⟨va, vn, vc, x, p, fe, fa, rfl, hb, hc⟩; have hn := (turn3 hb).head; have c1 : w2.cell? ⟨X, 2, none⟩ = some (.slice none 0 0) := hn.cell 2; have f1 := hn.frozen 2; have HB := WirS.hide (turn3 (bag_binb hb)); have HC0 := WirS.hide hc; clear hb hc hn))
  obtain ⟨W3, e3⟩ : ∃ Y, Y = w2.setCell ⟨X, 2, none⟩ (.slice va vn vc) := ⟨_, rfl⟩
  rw [← e3]
  obtain ⟨t, et⟩ : ∃ t : Td, t = { thing0 2 with v := .slice va vn vc } := ⟨_, rfl⟩
  have hb3 : Bag w0 W3 (rdr R a c bs p fe fa :: box 39 X t.cells :: binb (.slice va vn vc) x :: wtr W lim v (bs.take at') 0 :: l) := by
    rw [e3, et]
    exact (bag_set HB.out 2 (.slice va vn vc)).swap
  have HC : Hid ((fe = 0 ∧ fa = 0 ∧ Okt t va vn vc x bs at' p) ∨ fe ≠ 0) := WirS.hide (HC0.out.imp (fun ⟨h1, h2, h3⟩ => ⟨h1, h2, by rw [et]; exact ok_sized 2 (.inr rfl) va vn vc hb3.head.bytes h3⟩) (fun h => h.1))
  have HB3 := WirS.hide hb3
  clear HB hb3 c1 f1 e3 HC0
  clear et
  have CE := WirS.hide (show Calls Try.prog 35 #[.pointer (some ⟨R, 0, none⟩)] W3 (BR w0 _ R a c bs (.agg #[.int .i64 (endE bs p fe), .int .i64 (endA bs p fe fa)]) p fe fa) from br_end HB3.out)
  generalize hE : endE bs p fe = E at CE
  generalize endA bs p fe fa = A at CE
  go_upto_region 20 with ((go_at_call 35; refine (CE.out).mono ?_; rintro e w4 ⟨rfl, hb⟩; have HB := WirS.hide (hb.more (Below.alloc (Below.refl _ _) (Nat.le_refl _) (.cells #[.int .i64 E, .int .i64 A] 55))); clear hb HB3 CE))
  obtain ⟨W5, e5⟩ : ∃ Y, Y = w4.alloc (.cells #[.int .i64 E, .int .i64 A] 55) := ⟨_, rfl⟩
  have c5 : W5.cell? ⟨w4.heap.size, 0, none⟩ = some (.int .i64 E) := by rw [e5]; exact (At.new w4 55 [.int .i64 E, .int .i64 A]).cell 0
  rw [← e5] at HB ⊢
  clear e5
  generalize w4.heap.size = F at c5 ⊢
  have hRest := WirS.hide (br_rest HB.out)
  have HL := WirS.hide hl
  have tl := t.len
  clear hl
  rcases HC.out with ⟨rfl, rfl, ho⟩ | hfe
  · have HF := WirS.hide ho.fit
    have HO := WirS.hide ho
    clear ho HC
    by_cases hpos : 0 < restN bs p 0
    · obtain rfl : 4 = E := by rw [← hE]; unfold endE; rw [if_pos hpos]
      have g1 : ∀ U, (binOp .gtr 3 (.int .i64 (restN bs p 0)) (.int .i64 0)).run Try.prog U = .ok (.bool true) U := fun U => by simp [binOp, Op.intCmp, hpos]
      clear hE hpos
      refine wp_region_lit ?_
      refine sV (.pointer (some ⟨F, 0, none⟩)) (W5) (by kernel_rfl) (by kernel_rfl) ?_
      simp only [Act.put, List.setIfInBounds_toArray, List.set_cons_succ, List.set_cons_zero]
      refine sP (by kernel_rfl) _ _ (by rfl) ⟨F, 0, none⟩ (by kernel_rfl) (.int .i64 4) c5 (by kernel_rfl) ?_
      simp only [Act.put, List.setIfInBounds_toArray, List.set_cons_succ, List.set_cons_zero]
      refine sV (.bool false) (W5) (by kernel_rfl) (by kernel_rfl) ?_
      simp only [Act.put, List.setIfInBounds_toArray, List.set_cons_succ, List.set_cons_zero]
      refine sV (.bool false) (W5) (by kernel_rfl) (by kernel_rfl) ?_
      simp only [Act.put, List.setIfInBounds_toArray, List.set_cons_succ, List.set_cons_zero]
      refine sV (.pointer (some ⟨F, 0, none⟩)) (W5) (by kernel_rfl) (by kernel_rfl) ?_
      simp only [Act.put, List.setIfInBounds_toArray, List.set_cons_succ, List.set_cons_zero]
      refine sP (by kernel_rfl) _ _ (by rfl) ⟨F, 0, none⟩ (by kernel_rfl) (.int .i64 4) c5 (by kernel_rfl) ?_
      simp only [Act.put, List.setIfInBounds_toArray, List.set_cons_succ, List.set_cons_zero]
      refine sV (.bool true) (W5) (by kernel_rfl) (by kernel_rfl) ?_
      simp only [Act.put, List.setIfInBounds_toArray, List.set_cons_succ, List.set_cons_zero]
      refine sV (.bool true) (W5) (by kernel_rfl) (by kernel_rfl) ?_
      simp only [Act.put, List.setIfInBounds_toArray, List.set_cons_succ, List.set_cons_zero]
      refine sV (.pointer (some ⟨R, 0, none⟩)) (W5) (by kernel_rfl) (by kernel_rfl) ?_
      simp only [Act.put, List.setIfInBounds_toArray, List.set_cons_succ, List.set_cons_zero]
      refine sC (by kernel_rfl) (by kernel_rfl) hRest.out ?_
      rintro w6 hb6
      simp only [Act.put, List.setIfInBounds_toArray, List.set_cons_succ, List.set_cons_zero]
      refine sB (by kernel_rfl) .gtr _ _ _ _ (by rfl) (.int .i64 (restN bs p 0)) (.int .i64 0) (by kernel_rfl) (by kernel_rfl) (.bool true) (g1 _) (by kernel_rfl) ?_
      simp only [Act.put, List.setIfInBounds_toArray, List.set_cons_succ, List.set_cons_zero]
      refine sV (.bool true) (w6) (by kernel_rfl) (by kernel_rfl) ?_
      simp only [Act.put, List.setIfInBounds_toArray, List.set_cons_succ, List.set_cons_zero]
      refine sV (.bool true) (w6) (by kernel_rfl) (by kernel_rfl) ?_
      simp only [Act.put, List.setIfInBounds_toArray, List.set_cons_succ, List.set_cons_zero]
      refine sV (.bool true) (w6) (by kernel_rfl) (by kernel_rfl) ?_
      simp only [Act.put, List.setIfInBounds_toArray, List.set_cons_succ, List.set_cons_zero]
      refine sV (.pointer (some ⟨W, 0, none⟩)) (w6) (by kernel_rfl) (by kernel_rfl) ?_
      simp only [Act.put, List.setIfInBounds_toArray, List.set_cons_succ, List.set_cons_zero]
      refine sL (by kernel_rfl) _ _ (by rfl) _ (by kernel_rfl) hb6.swap.head _ 41 Try.underlying39 rfl (by kernel_rfl) tl ?_
      simp only [Act.put, List.setIfInBounds_toArray, List.set_cons_succ, List.set_cons_zero]
      refine sC (by kernel_rfl) (by kernel_rfl) (put_fit hb6 HO.out HL.out) ?_
      rintro w7 ⟨v7, hb7⟩
      simp only [Act.put, List.setIfInBounds_toArray, List.set_cons_succ, List.set_cons_zero]
      refine sV (.bool true) (w7) (by kernel_rfl) (by kernel_rfl) ?_
      simp only [Act.put, List.setIfInBounds_toArray, List.set_cons_succ, List.set_cons_zero]
      refine sV (.bool true) (w7) (by kernel_rfl) (by kernel_rfl) ?_
      simp only [Act.put, List.setIfInBounds_toArray, List.set_cons_succ, List.set_cons_zero]
      refine sV (.bool true) (w7) (by kernel_rfl) (by kernel_rfl) ?_
      simp only [Act.put, List.setIfInBounds_toArray, List.set_cons_succ, List.set_cons_zero]
      have HB7 := WirS.hide hb7
      clear hb7 hb6 hRest HO c5 g1 tl
      go_wp2_with fail
      go_ret
      exact .inl ⟨rfl, p, v7, HF.out.1, HF.out.2.1, fin_bag HB7.out⟩
    · obtain rfl : 0 = E := by rw [← hE]; unfold endE; rw [if_neg hpos]
      clear hE hpos hRest
      refine wp_region_lit ?_
      refine sV (.pointer (some ⟨F, 0, none⟩)) (W5) (by kernel_rfl) (by kernel_rfl) ?_
      simp only [Act.put, List.setIfInBounds_toArray, List.set_cons_succ, List.set_cons_zero]
      refine sP (by kernel_rfl) _ _ (by rfl) ⟨F, 0, none⟩ (by kernel_rfl) (.int .i64 0) c5 (by kernel_rfl) ?_
      simp only [Act.put, List.setIfInBounds_toArray, List.set_cons_succ, List.set_cons_zero]
      refine sV (.bool true) (W5) (by kernel_rfl) (by kernel_rfl) ?_
      simp only [Act.put, List.setIfInBounds_toArray, List.set_cons_succ, List.set_cons_zero]
      refine sV (.bool true) (W5) (by kernel_rfl) (by kernel_rfl) ?_
      simp only [Act.put, List.setIfInBounds_toArray, List.set_cons_succ, List.set_cons_zero]
      with_reducible refine sS (by kernel_rfl) ?_
      simp only [Act.put, List.setIfInBounds_toArray, List.set_cons_succ, List.set_cons_zero]
      with_reducible refine sS (by kernel_rfl) ?_
      simp only [Act.put, List.setIfInBounds_toArray, List.set_cons_succ, List.set_cons_zero]
      with_reducible refine sS (by kernel_rfl) ?_
      simp only [Act.put, List.setIfInBounds_toArray, List.set_cons_succ, List.set_cons_zero]
      with_reducible refine sS (by kernel_rfl) ?_
      simp only [Act.put, List.setIfInBounds_toArray, List.set_cons_succ, List.set_cons_zero]
      with_reducible refine sS (by kernel_rfl) ?_
      simp only [Act.put, List.setIfInBounds_toArray, List.set_cons_succ, List.set_cons_zero]
      with_reducible refine sS (by kernel_rfl) ?_
      simp only [Act.put, List.setIfInBounds_toArray, List.set_cons_succ, List.set_cons_zero]
      with_reducible refine sS (by kernel_rfl) ?_
      simp only [Act.put, List.setIfInBounds_toArray, List.set_cons_succ, List.set_cons_zero]
      with_reducible refine sS (by kernel_rfl) ?_
      simp only [Act.put, List.setIfInBounds_toArray, List.set_cons_succ, List.set_cons_zero]
      refine sV (.bool true) (W5) (by kernel_rfl) (by kernel_rfl) ?_
      simp only [Act.put, List.setIfInBounds_toArray, List.set_cons_succ, List.set_cons_zero]
      refine sV (.bool true) (W5) (by kernel_rfl) (by kernel_rfl) ?_
      simp only [Act.put, List.setIfInBounds_toArray, List.set_cons_succ, List.set_cons_zero]
      refine sV (.pointer (some ⟨W, 0, none⟩)) (W5) (by kernel_rfl) (by kernel_rfl) ?_
      simp only [Act.put, List.setIfInBounds_toArray, List.set_cons_succ, List.set_cons_zero]
      refine sL (by kernel_rfl) _ _ (by rfl) _ (by kernel_rfl) HB.out.swap.head _ 41 Try.underlying39 rfl (by kernel_rfl) tl ?_
      simp only [Act.put, List.setIfInBounds_toArray, List.set_cons_succ, List.set_cons_zero]
      refine sC (by kernel_rfl) (by kernel_rfl) (put_fit HB.out HO.out HL.out) ?_
      rintro w7 ⟨v7, hb7⟩
      simp only [Act.put, List.setIfInBounds_toArray, List.set_cons_succ, List.set_cons_zero]
      refine sV (.bool true) (w7) (by kernel_rfl) (by kernel_rfl) ?_
      simp only [Act.put, List.setIfInBounds_toArray, List.set_cons_succ, List.set_cons_zero]
      refine sV (.bool true) (w7) (by kernel_rfl) (by kernel_rfl) ?_
      simp only [Act.put, List.setIfInBounds_toArray, List.set_cons_succ, List.set_cons_zero]
      refine sV (.bool true) (w7) (by kernel_rfl) (by kernel_rfl) ?_
      simp only [Act.put, List.setIfInBounds_toArray, List.set_cons_succ, List.set_cons_zero]
      have HB7 := WirS.hide hb7
      clear hb7 HB HO c5 tl
      go_wp2_with fail
      go_ret
      exact .inl ⟨rfl, p, v7, HF.out.1, HF.out.2.1, fin_bag HB7.out⟩
  · have hz : restN bs p fe = 0 := by unfold restN; rw [if_neg hfe]
    obtain rfl : fe = E := by rw [← hE]; unfold endE; rw [hz]; simp
    rw [hz] at hRest
    have hq : (fe == 0) = false := by simpa using hfe
    have HFE := WirS.hide hfe
    clear hE hz hfe HC
    by_cases h4 : fe = 4
    · subst h4
      go_wp2_with ((go_at_call 33; refine (hRest.out).mono ?_; rintro e w6 ⟨rfl, hb⟩; have HB6 := WirS.hide hb; clear hb))
      go_ret
      exact .inr ⟨rfl, p, 4, fa, HFE.out, bad_bag HB6.out⟩
    · have hq4 : (fe == 4) = false := by simpa using h4
      clear h4
      go_wp2_with fail
      go_ret
      exact .inr ⟨rfl, p, fe, fa, HFE.out, bad_bag HB.out⟩
set_option maxHeartbeats 1000000 in
theorem again3 (w0 w : World) (l : List Thg) (R : Nat) (a : Option Addr) (c : Nat) (bs : List Int) (at' W : Nat) (lim : Int) (v : Value) (h : Bag w0 w (rdr R a c bs at' 0 0 :: wtr W lim v (bs.take at') 0 :: l)) (hl : (bs.length : Int) ≤ lim) :
    Calls Try.prog 49 #[.pointer (some ⟨R, 0, none⟩), .pointer (some ⟨W, 0, none⟩), .int .i64 3] w (Ag w0 l R a c bs at' W lim) := by
  have H := WirS.hide h
  clear h
  go_enter Try.func49, Try.ntmps49
  go_upto_region 1 with fail
  refine wp_region_lit ?_
  refine sV (.int .i64 3) (w) (by kernel_rfl) (by kernel_rfl) ?_
  simp only [Act.put, List.setIfInBounds_toArray, List.set_cons_succ, List.set_cons_zero]
  refine sV (.agg (thing0 3).cells.toArray) (w) (by kernel_rfl) (by kernel_rfl) ?_
  simp only [Act.put, List.setIfInBounds_toArray, List.set_cons_succ, List.set_cons_zero]
  refine sV (.pointer (some ⟨w.heap.size, 0, none⟩)) (w.alloc (.cells (thing0 0).cells.toArray 39)) (by kernel_rfl) (by kernel_rfl) ?_
  simp only [Act.put, List.setIfInBounds_toArray, List.set_cons_succ, List.set_cons_zero]
  refine stepStore (by rfl) _ _ _ (by rfl) _ (thing0 3).cells (by kernel_rfl) (by kernel_rfl) (At.new w 39 (thing0 0).cells) 41 (by kernel_rfl) (t0_len 0) (t0_len 3) (all_oneCell_toArray (one_cells _ rfl)) ?_
  obtain ⟨W1, e1⟩ : ∃ Y, Y = (w.alloc (.cells (thing0 0).cells.toArray 39)).setRow w.heap.size (thing0 3).cells.toArray := ⟨_, rfl⟩
  have b1 : Bag w0 W1 (box 39 w.heap.size (thing0 3).cells :: rdr R a c bs at' 0 0 :: wtr W lim v (bs.take at') 0 :: l) := by
    rw [e1]
    exact bag_box H.out rfl ((At.new w _ _).put _) (Below.setRowOwn (Below.alloc (Below.refl _ _) (Nat.le_refl _) _) (Nat.le_refl _) _)
  rw [← e1]
  generalize w.heap.size = X at b1 ⊢
  have C := WirS.hide (b_hash b1.swap)
  clear e1 H b1
  go_upto_region 10 with fail
  refine wp_region_lit ?_
  refine sV (.pointer (some ⟨R, 0, none⟩)) (W1) (by kernel_rfl) (by kernel_rfl) ?_
  simp only [Act.put, List.setIfInBounds_toArray, List.set_cons_succ, List.set_cons_zero]
  refine sCx (by kernel_rfl) (by kernel_rfl) C.out ?_
  rintro e w2 ⟨x, p, fe, fa, rfl, hb, hc⟩
  refine ⟨_, rfl, ?_⟩
  simp only [Act.put, List.setIfInBounds_toArray, List.set_cons_succ, List.set_cons_zero]
  have hx : x.length = 32 := hc.elim (fun ⟨_, _, h⟩ => (row_fits h).1) (fun h => by rw [h.2.1]; simp [zz])
  refine sV (.pointer (some ⟨X, 3, none⟩)) (w2) (by kernel_rfl) (by kernel_rfl) ?_
  simp only [Act.put, List.setIfInBounds_toArray, List.set_cons_succ, List.set_cons_zero]
  refine wpList_store_mid (by rfl) _ _ _ (by rfl) X 3 (b8 x).toArray (by kernel_rfl) (by kernel_rfl) (there_at hb.swap.head 3 _ (by rw [t0_len, List.size_toArray, b8_len, hx]; decide)) (by rw [List.size_toArray, b8_len, hx]; kernel_rfl) (all_oneCell_toArray (one_b8 _)) ?_
  obtain ⟨W3, e3⟩ : ∃ Y, Y = w2.setCells X 3 (b8 x).toArray.toList := ⟨_, rfl⟩
  rw [← e3]
  obtain ⟨t, et⟩ : ∃ t : Td, t = { thing0 3 with h := x, lh := hx } := ⟨_, rfl⟩
  have hb3 : Bag w0 W3 (rdr R a c bs p fe fa :: box 39 X t.cells :: binb (.slice none 0 0) [] :: wtr W lim v (bs.take at') 0 :: l) := by
    rw [e3, et]
    have hq := turn3 (bag_nil (bag_sets hb.swap 3 (b8 x).toArray.toList (by rw [t0_len, List.toList_toArray, b8_len, hx]; decide)))
    rw [List.toList_toArray, b8_len, hx] at hq
    exact hq
  have HC : Hid ((fe = 0 ∧ fa = 0 ∧ Okt t none 0 0 [] bs at' p) ∨ fe ≠ 0) := WirS.hide (hc.imp (fun ⟨h1, h2, h3⟩ => ⟨h1, h2, by rw [et]; exact ok_hash h3 hx⟩) (fun h => h.1))
  have HB3 := WirS.hide hb3
  clear hb hb3 hc e3
  clear et
  have CE := WirS.hide (show Calls Try.prog 35 #[.pointer (some ⟨R, 0, none⟩)] W3 (BR w0 _ R a c bs (.agg #[.int .i64 (endE bs p fe), .int .i64 (endA bs p fe fa)]) p fe fa) from br_end HB3.out)
  generalize hE : endE bs p fe = E at CE
  generalize endA bs p fe fa = A at CE
  go_upto_region 20 with ((go_at_call 35; refine (CE.out).mono ?_; rintro e w4 ⟨rfl, hb⟩; have HB := WirS.hide (hb.more (Below.alloc (Below.refl _ _) (Nat.le_refl _) (.cells #[.int .i64 E, .int .i64 A] 55))); clear hb HB3 CE))
  obtain ⟨W5, e5⟩ : ∃ Y, Y = w4.alloc (.cells #[.int .i64 E, .int .i64 A] 55) := ⟨_, rfl⟩
  have c5 : W5.cell? ⟨w4.heap.size, 0, none⟩ = some (.int .i64 E) := by rw [e5]; exact (At.new w4 55 [.int .i64 E, .int .i64 A]).cell 0
  rw [← e5] at HB ⊢
  clear e5
  generalize w4.heap.size = F at c5 ⊢
  have hRest := WirS.hide (br_rest HB.out)
  have HL := WirS.hide hl
  have tl := t.len
  clear hl
  rcases HC.out with ⟨rfl, rfl, ho⟩ | hfe
  · have HF := WirS.hide ho.fit
    have HO := WirS.hide ho
    clear ho HC
    by_cases hpos : 0 < restN bs p 0
    · obtain rfl : 4 = E := by rw [← hE]; unfold endE; rw [if_pos hpos]
      have g1 : ∀ U, (binOp .gtr 3 (.int .i64 (restN bs p 0)) (.int .i64 0)).run Try.prog U = .ok (.bool true) U := fun U => by simp [binOp, Op.intCmp, hpos]
      clear hE hpos
      refine wp_region_lit ?_
      refine sV (.pointer (some ⟨F, 0, none⟩)) (W5) (by kernel_rfl) (by kernel_rfl) ?_
      simp only [Act.put, List.setIfInBounds_toArray, List.set_cons_succ, List.set_cons_zero]
      refine sP (by kernel_rfl) _ _ (by rfl) ⟨F, 0, none⟩ (by kernel_rfl) (.int .i64 4) c5 (by kernel_rfl) ?_
      simp only [Act.put, List.setIfInBounds_toArray, List.set_cons_succ, List.set_cons_zero]
      refine sV (.bool false) (W5) (by kernel_rfl) (by kernel_rfl) ?_
      simp only [Act.put, List.setIfInBounds_toArray, List.set_cons_succ, List.set_cons_zero]
      refine sV (.bool false) (W5) (by kernel_rfl) (by kernel_rfl) ?_
      simp only [Act.put, List.setIfInBounds_toArray, List.set_cons_succ, List.set_cons_zero]
      refine sV (.pointer (some ⟨F, 0, none⟩)) (W5) (by kernel_rfl) (by kernel_rfl) ?_
      simp only [Act.put, List.setIfInBounds_toArray, List.set_cons_succ, List.set_cons_zero]
      refine sP (by kernel_rfl) _ _ (by rfl) ⟨F, 0, none⟩ (by kernel_rfl) (.int .i64 4) c5 (by kernel_rfl) ?_
      simp only [Act.put, List.setIfInBounds_toArray, List.set_cons_succ, List.set_cons_zero]
      refine sV (.bool true) (W5) (by kernel_rfl) (by kernel_rfl) ?_
      simp only [Act.put, List.setIfInBounds_toArray, List.set_cons_succ, List.set_cons_zero]
      refine sV (.bool true) (W5) (by kernel_rfl) (by kernel_rfl) ?_
      simp only [Act.put, List.setIfInBounds_toArray, List.set_cons_succ, List.set_cons_zero]
      refine sV (.pointer (some ⟨R, 0, none⟩)) (W5) (by kernel_rfl) (by kernel_rfl) ?_
      simp only [Act.put, List.setIfInBounds_toArray, List.set_cons_succ, List.set_cons_zero]
      refine sC (by kernel_rfl) (by kernel_rfl) hRest.out ?_
      rintro w6 hb6
      simp only [Act.put, List.setIfInBounds_toArray, List.set_cons_succ, List.set_cons_zero]
      refine sB (by kernel_rfl) .gtr _ _ _ _ (by rfl) (.int .i64 (restN bs p 0)) (.int .i64 0) (by kernel_rfl) (by kernel_rfl) (.bool true) (g1 _) (by kernel_rfl) ?_
      simp only [Act.put, List.setIfInBounds_toArray, List.set_cons_succ, List.set_cons_zero]
      refine sV (.bool true) (w6) (by kernel_rfl) (by kernel_rfl) ?_
      simp only [Act.put, List.setIfInBounds_toArray, List.set_cons_succ, List.set_cons_zero]
      refine sV (.bool true) (w6) (by kernel_rfl) (by kernel_rfl) ?_
      simp only [Act.put, List.setIfInBounds_toArray, List.set_cons_succ, List.set_cons_zero]
      refine sV (.bool true) (w6) (by kernel_rfl) (by kernel_rfl) ?_
      simp only [Act.put, List.setIfInBounds_toArray, List.set_cons_succ, List.set_cons_zero]
      refine sV (.pointer (some ⟨W, 0, none⟩)) (w6) (by kernel_rfl) (by kernel_rfl) ?_
      simp only [Act.put, List.setIfInBounds_toArray, List.set_cons_succ, List.set_cons_zero]
      refine sL (by kernel_rfl) _ _ (by rfl) _ (by kernel_rfl) hb6.swap.head _ 41 Try.underlying39 rfl (by kernel_rfl) tl ?_
      simp only [Act.put, List.setIfInBounds_toArray, List.set_cons_succ, List.set_cons_zero]
      refine sC (by kernel_rfl) (by kernel_rfl) (put_fit hb6 HO.out HL.out) ?_
      rintro w7 ⟨v7, hb7⟩
      simp only [Act.put, List.setIfInBounds_toArray, List.set_cons_succ, List.set_cons_zero]
      refine sV (.bool true) (w7) (by kernel_rfl) (by kernel_rfl) ?_
      simp only [Act.put, List.setIfInBounds_toArray, List.set_cons_succ, List.set_cons_zero]
      refine sV (.bool true) (w7) (by kernel_rfl) (by kernel_rfl) ?_
      simp only [Act.put, List.setIfInBounds_toArray, List.set_cons_succ, List.set_cons_zero]
      refine sV (.bool true) (w7) (by kernel_rfl) (by kernel_rfl) ?_
      simp only [Act.put, List.setIfInBounds_toArray, List.set_cons_succ, List.set_cons_zero]
      have HB7 := WirS.hide hb7
      clear hb7 hb6 hRest HO c5 g1 tl
      go_wp2_with fail
      go_ret
      exact .inl ⟨rfl, p, v7, HF.out.1, HF.out.2.1, fin_bag HB7.out⟩
    · obtain rfl : 0 = E := by rw [← hE]; unfold endE; rw [if_neg hpos]
      clear hE hpos hRest
      refine wp_region_lit ?_
      refine sV (.pointer (some ⟨F, 0, none⟩)) (W5) (by kernel_rfl) (by kernel_rfl) ?_
      simp only [Act.put, List.setIfInBounds_toArray, List.set_cons_succ, List.set_cons_zero]
      refine sP (by kernel_rfl) _ _ (by rfl) ⟨F, 0, none⟩ (by kernel_rfl) (.int .i64 0) c5 (by kernel_rfl) ?_
      simp only [Act.put, List.setIfInBounds_toArray, List.set_cons_succ, List.set_cons_zero]
      refine sV (.bool true) (W5) (by kernel_rfl) (by kernel_rfl) ?_
      simp only [Act.put, List.setIfInBounds_toArray, List.set_cons_succ, List.set_cons_zero]
      refine sV (.bool true) (W5) (by kernel_rfl) (by kernel_rfl) ?_
      simp only [Act.put, List.setIfInBounds_toArray, List.set_cons_succ, List.set_cons_zero]
      with_reducible refine sS (by kernel_rfl) ?_
      simp only [Act.put, List.setIfInBounds_toArray, List.set_cons_succ, List.set_cons_zero]
      with_reducible refine sS (by kernel_rfl) ?_
      simp only [Act.put, List.setIfInBounds_toArray, List.set_cons_succ, List.set_cons_zero]
      with_reducible refine sS (by kernel_rfl) ?_
      simp only [Act.put, List.setIfInBounds_toArray, List.set_cons_succ, List.set_cons_zero]
      with_reducible refine sS (by kernel_rfl) ?_
      simp only [Act.put, List.setIfInBounds_toArray, List.set_cons_succ, List.set_cons_zero]
      with_reducible refine sS (by kernel_rfl) ?_
      simp only [Act.put, List.setIfInBounds_toArray, List.set_cons_succ, List.set_cons_zero]
      with_reducible refine sS (by kernel_rfl) ?_
      simp only [Act.put, List.setIfInBounds_toArray, List.set_cons_succ, List.set_cons_zero]
      with_reducible refine sS (by kernel_rfl) ?_
      simp only [Act.put, List.setIfInBounds_toArray, List.set_cons_succ, List.set_cons_zero]
      with_reducible refine sS (by kernel_rfl) ?_
      simp only [Act.put, List.setIfInBounds_toArray, List.set_cons_succ, List.set_cons_zero]
      refine sV (.bool true) (W5) (by kernel_rfl) (by kernel_rfl) ?_
      simp only [Act.put, List.setIfInBounds_toArray, List.set_cons_succ, List.set_cons_zero]
      refine sV (.bool true) (W5) (by kernel_rfl) (by kernel_rfl) ?_
      simp only [Act.put, List.setIfInBounds_toArray, List.set_cons_succ, List.set_cons_zero]
      refine sV (.pointer (some ⟨W, 0, none⟩)) (W5) (by kernel_rfl) (by kernel_rfl) ?_
      simp only [Act.put, List.setIfInBounds_toArray, List.set_cons_succ, List.set_cons_zero]
      refine sL (by kernel_rfl) _ _ (by rfl) _ (by kernel_rfl) HB.out.swap.head _ 41 Try.underlying39 rfl (by kernel_rfl) tl ?_
      simp only [Act.put, List.setIfInBounds_toArray, List.set_cons_succ, List.set_cons_zero]
      refine sC (by kernel_rfl) (by kernel_rfl) (put_fit HB.out HO.out HL.out) ?_
      rintro w7 ⟨v7, hb7⟩
      simp only [Act.put, List.setIfInBounds_toArray, List.set_cons_succ, List.set_cons_zero]
      refine sV (.bool true) (w7) (by kernel_rfl) (by kernel_rfl) ?_
      simp only [Act.put, List.setIfInBounds_toArray, List.set_cons_succ, List.set_cons_zero]
      refine sV (.bool true) (w7) (by kernel_rfl) (by kernel_rfl) ?_
      simp only [Act.put, List.setIfInBounds_toArray, List.set_cons_succ, List.set_cons_zero]
      refine sV (.bool true) (w7) (by kernel_rfl) (by kernel_rfl) ?_
      simp only [Act.put, List.setIfInBounds_toArray, List.set_cons_succ, List.set_cons_zero]
      have HB7 := WirS.hide hb7
      clear hb7 HB HO c5 tl
      go_wp2_with fail
      go_ret
      exact .inl ⟨rfl, p, v7, HF.out.1, HF.out.2.1, fin_bag HB7.out⟩
  · have hz : restN bs p fe = 0 := by unfold restN; rw [if_neg hfe]
    obtain rfl : fe = E := by rw [← hE]; unfold endE; rw [hz]; simp
    rw [hz] at hRest
    have hq : (fe == 0) = false := by simpa using hfe
    have HFE := WirS.hide hfe
    clear hE hz hfe HC
    by_cases h4 : fe = 4
    · subst h4
      go_wp2_with ((go_at_call 33; refine (hRest.out).mono ?_; rintro e w6 ⟨rfl, hb⟩; have HB6 := WirS.hide hb; clear hb))
      go_ret
      exact .inr ⟨rfl, p, 4, fa, HFE.out, bad_bag HB6.out⟩
    · have hq4 : (fe == 4) = false := by simpa using h4
      clear h4
      go_wp2_with fail
      go_ret
      exact .inr ⟨rfl, p, fe, fa, HFE.out, bad_bag HB.out⟩
set_option maxHeartbeats 1000000 in
theorem again4 (w0 w : World) (l : List Thg) (R : Nat) (a : Option Addr) (c : Nat) (bs : List Int) (at' W : Nat) (lim : Int) (v : Value) (h : Bag w0 w (rdr R a c bs at' 0 0 :: wtr W lim v (bs.take at') 0 :: l)) (hl : (bs.length : Int) ≤ lim) :
    Calls Try.prog 49 #[.pointer (some ⟨R, 0, none⟩), .pointer (some ⟨W, 0, none⟩), .int .i64 4] w (Ag w0 l R a c bs at' W lim) := by
  have H := WirS.hide h
  clear h
  go_enter Try.func49, Try.ntmps49
  go_upto_region 1 with fail
  refine wp_region_lit ?_
  refine sV (.int .i64 4) (w) (by kernel_rfl) (by kernel_rfl) ?_
  simp only [Act.put, List.setIfInBounds_toArray, List.set_cons_succ, List.set_cons_zero]
  refine sV (.agg (thing0 4).cells.toArray) (w) (by kernel_rfl) (by kernel_rfl) ?_
  simp only [Act.put, List.setIfInBounds_toArray, List.set_cons_succ, List.set_cons_zero]
  refine sV (.pointer (some ⟨w.heap.size, 0, none⟩)) (w.alloc (.cells (thing0 0).cells.toArray 39)) (by kernel_rfl) (by kernel_rfl) ?_
  simp only [Act.put, List.setIfInBounds_toArray, List.set_cons_succ, List.set_cons_zero]
  refine stepStore (by rfl) _ _ _ (by rfl) _ (thing0 4).cells (by kernel_rfl) (by kernel_rfl) (At.new w 39 (thing0 0).cells) 41 (by kernel_rfl) (t0_len 0) (t0_len 4) (all_oneCell_toArray (one_cells _ rfl)) ?_
  obtain ⟨W1, e1⟩ : ∃ Y, Y = (w.alloc (.cells (thing0 0).cells.toArray 39)).setRow w.heap.size (thing0 4).cells.toArray := ⟨_, rfl⟩
  have b1 : Bag w0 W1 (box 39 w.heap.size (thing0 4).cells :: rdr R a c bs at' 0 0 :: wtr W lim v (bs.take at') 0 :: l) := by
    rw [e1]
    exact bag_box H.out rfl ((At.new w _ _).put _) (Below.setRowOwn (Below.alloc (Below.refl _ _) (Nat.le_refl _) _) (Nat.le_refl _) _)
  rw [← e1]
  generalize w.heap.size = X at b1 ⊢
  have C := WirS.hide (b_key b1.swap)
  clear e1 H b1
  go_upto_region 12 with fail
  refine wp_region_lit ?_
  refine sV (.pointer (some ⟨R, 0, none⟩)) (W1) (by kernel_rfl) (by kernel_rfl) ?_
  simp only [Act.put, List.setIfInBounds_toArray, List.set_cons_succ, List.set_cons_zero]
  refine sCx (by kernel_rfl) (by kernel_rfl) C.out ?_
  rintro e w2 ⟨x, p, fe, fa, rfl, hb, hc⟩
  refine ⟨_, rfl, ?_⟩
  simp only [Act.put, List.setIfInBounds_toArray, List.set_cons_succ, List.set_cons_zero]
  have hx : x.length = 4 := hc.elim (fun ⟨_, _, h⟩ => (row_fits h).1) (fun h => by rw [h.2.1]; simp [zz])
  refine sV (.pointer (some ⟨X, 35, none⟩)) (w2) (by kernel_rfl) (by kernel_rfl) ?_
  simp only [Act.put, List.setIfInBounds_toArray, List.set_cons_succ, List.set_cons_zero]
  refine wpList_store_mid (by rfl) _ _ _ (by rfl) X 35 (b8 x).toArray (by kernel_rfl) (by kernel_rfl) (there_at hb.swap.head 35 _ (by rw [t0_len, List.size_toArray, b8_len, hx]; decide)) (by rw [List.size_toArray, b8_len, hx]; kernel_rfl) (all_oneCell_toArray (one_b8 _)) ?_
  obtain ⟨W3, e3⟩ : ∃ Y, Y = w2.setCells X 35 (b8 x).toArray.toList := ⟨_, rfl⟩
  rw [← e3]
  obtain ⟨t, et⟩ : ∃ t : Td, t = { thing0 4 with k := x, lk := hx } := ⟨_, rfl⟩
  have hb3 : Bag w0 W3 (rdr R a c bs p fe fa :: box 39 X t.cells :: binb (.slice none 0 0) [] :: wtr W lim v (bs.take at') 0 :: l) := by
    rw [e3, et]
    have hq := turn3 (bag_nil (bag_sets hb.swap 35 (b8 x).toArray.toList (by rw [t0_len, List.toList_toArray, b8_len, hx]; decide)))
    rw [List.toList_toArray, b8_len, hx] at hq
    exact hq
  have HC : Hid ((fe = 0 ∧ fa = 0 ∧ Okt t none 0 0 [] bs at' p) ∨ fe ≠ 0) := WirS.hide (hc.imp (fun ⟨h1, h2, h3⟩ => ⟨h1, h2, by rw [et]; exact ok_key h3 hx⟩) (fun h => h.1))
  have HB3 := WirS.hide hb3
  clear hb hb3 hc e3
  clear et
  have CE := WirS.hide (show Calls Try.prog 35 #[.pointer (some ⟨R, 0, none⟩)] W3 (BR w0 _ R a c bs (.agg #[.int .i64 (endE bs p fe), .int .i64 (endA bs p fe fa)]) p fe fa) from br_end HB3.out)
  generalize hE : endE bs p fe = E at CE
  generalize endA bs p fe fa = A at CE
  go_upto_region 20 with ((go_at_call 35; refine (CE.out).mono ?_; rintro e w4 ⟨rfl, hb⟩; have HB := WirS.hide (hb.more (Below.alloc (Below.refl _ _) (Nat.le_refl _) (.cells #[.int .i64 E, .int .i64 A] 55))); clear hb HB3 CE))
  obtain ⟨W5, e5⟩ : ∃ Y, Y = w4.alloc (.cells #[.int .i64 E, .int .i64 A] 55) := ⟨_, rfl⟩
  have c5 : W5.cell? ⟨w4.heap.size, 0, none⟩ = some (.int .i64 E) := by rw [e5]; exact (At.new w4 55 [.int .i64 E, .int .i64 A]).cell 0
  rw [← e5] at HB ⊢
  clear e5
  generalize w4.heap.size = F at c5 ⊢
  have hRest := WirS.hide (br_rest HB.out)
  have HL := WirS.hide hl
  have tl := t.len
  clear hl
  rcases HC.out with ⟨rfl, rfl, ho⟩ | hfe
  · have HF := WirS.hide ho.fit
    have HO := WirS.hide ho
    clear ho HC
    by_cases hpos : 0 < restN bs p 0
    · obtain rfl : 4 = E := by rw [← hE]; unfold endE; rw [if_pos hpos]
      have g1 : ∀ U, (binOp .gtr 3 (.int .i64 (restN bs p 0)) (.int .i64 0)).run Try.prog U = .ok (.bool true) U := fun U => by simp [binOp, Op.intCmp, hpos]
      clear hE hpos
      refine wp_region_lit ?_
      refine sV (.pointer (some ⟨F, 0, none⟩)) (W5) (by kernel_rfl) (by kernel_rfl) ?_
      simp only [Act.put, List.setIfInBounds_toArray, List.set_cons_succ, List.set_cons_zero]
      refine sP (by kernel_rfl) _ _ (by rfl) ⟨F, 0, none⟩ (by kernel_rfl) (.int .i64 4) c5 (by kernel_rfl) ?_
      simp only [Act.put, List.setIfInBounds_toArray, List.set_cons_succ, List.set_cons_zero]
      refine sV (.bool false) (W5) (by kernel_rfl) (by kernel_rfl) ?_
      simp only [Act.put, List.setIfInBounds_toArray, List.set_cons_succ, List.set_cons_zero]
      refine sV (.bool false) (W5) (by kernel_rfl) (by kernel_rfl) ?_
      simp only [Act.put, List.setIfInBounds_toArray, List.set_cons_succ, List.set_cons_zero]
      refine sV (.pointer (some ⟨F, 0, none⟩)) (W5) (by kernel_rfl) (by kernel_rfl) ?_
      simp only [Act.put, List.setIfInBounds_toArray, List.set_cons_succ, List.set_cons_zero]
      refine sP (by kernel_rfl) _ _ (by rfl) ⟨F, 0, none⟩ (by kernel_rfl) (.int .i64 4) c5 (by kernel_rfl) ?_
      simp only [Act.put, List.setIfInBounds_toArray, List.set_cons_succ, List.set_cons_zero]
      refine sV (.bool true) (W5) (by kernel_rfl) (by kernel_rfl) ?_
      simp only [Act.put, List.setIfInBounds_toArray, List.set_cons_succ, List.set_cons_zero]
      refine sV (.bool true) (W5) (by kernel_rfl) (by kernel_rfl) ?_
      simp only [Act.put, List.setIfInBounds_toArray, List.set_cons_succ, List.set_cons_zero]
      refine sV (.pointer (some ⟨R, 0, none⟩)) (W5) (by kernel_rfl) (by kernel_rfl) ?_
      simp only [Act.put, List.setIfInBounds_toArray, List.set_cons_succ, List.set_cons_zero]
      refine sC (by kernel_rfl) (by kernel_rfl) hRest.out ?_
      rintro w6 hb6
      simp only [Act.put, List.setIfInBounds_toArray, List.set_cons_succ, List.set_cons_zero]
      refine sB (by kernel_rfl) .gtr _ _ _ _ (by rfl) (.int .i64 (restN bs p 0)) (.int .i64 0) (by kernel_rfl) (by kernel_rfl) (.bool true) (g1 _) (by kernel_rfl) ?_
      simp only [Act.put, List.setIfInBounds_toArray, List.set_cons_succ, List.set_cons_zero]
      refine sV (.bool true) (w6) (by kernel_rfl) (by kernel_rfl) ?_
      simp only [Act.put, List.setIfInBounds_toArray, List.set_cons_succ, List.set_cons_zero]
      refine sV (.bool true) (w6) (by kernel_rfl) (by kernel_rfl) ?_
      simp only [Act.put, List.setIfInBounds_toArray, List.set_cons_succ, List.set_cons_zero]
      refine sV (.bool true) (w6) (by kernel_rfl) (by kernel_rfl) ?_
      simp only [Act.put, List.setIfInBounds_toArray, List.set_cons_succ, List.set_cons_zero]
      refine sV (.pointer (some ⟨W, 0, none⟩)) (w6) (by kernel_rfl) (by kernel_rfl) ?_
      simp only [Act.put, List.setIfInBounds_toArray, List.set_cons_succ, List.set_cons_zero]
      refine sL (by kernel_rfl) _ _ (by rfl) _ (by kernel_rfl) hb6.swap.head _ 41 Try.underlying39 rfl (by kernel_rfl) tl ?_
      simp only [Act.put, List.setIfInBounds_toArray, List.set_cons_succ, List.set_cons_zero]
      refine sC (by kernel_rfl) (by kernel_rfl) (put_fit hb6 HO.out HL.out) ?_
      rintro w7 ⟨v7, hb7⟩
      simp only [Act.put, List.setIfInBounds_toArray, List.set_cons_succ, List.set_cons_zero]
      refine sV (.bool true) (w7) (by kernel_rfl) (by kernel_rfl) ?_
      simp only [Act.put, List.setIfInBounds_toArray, List.set_cons_succ, List.set_cons_zero]
      refine sV (.bool true) (w7) (by kernel_rfl) (by kernel_rfl) ?_
      simp only [Act.put, List.setIfInBounds_toArray, List.set_cons_succ, List.set_cons_zero]
      refine sV (.bool true) (w7) (by kernel_rfl) (by kernel_rfl) ?_
      simp only [Act.put, List.setIfInBounds_toArray, List.set_cons_succ, List.set_cons_zero]
      have HB7 := WirS.hide hb7
      clear hb7 hb6 hRest HO c5 g1 tl
      go_wp2_with fail
      go_ret
      exact .inl ⟨rfl, p, v7, HF.out.1, HF.out.2.1, fin_bag HB7.out⟩
    · obtain rfl : 0 = E := by rw [← hE]; unfold endE; rw [if_neg hpos]
      clear hE hpos hRest
      refine wp_region_lit ?_
      refine sV (.pointer (some ⟨F, 0, none⟩)) (W5) (by kernel_rfl) (by kernel_rfl) ?_
      simp only [Act.put, List.setIfInBounds_toArray, List.set_cons_succ, List.set_cons_zero]
      refine sP (by kernel_rfl) _ _ (by rfl) ⟨F, 0, none⟩ (by kernel_rfl) (.int .i64 0) c5 (by kernel_rfl) ?_
      simp only [Act.put, List.setIfInBounds_toArray, List.set_cons_succ, List.set_cons_zero]
      refine sV (.bool true) (W5) (by kernel_rfl) (by kernel_rfl) ?_
      simp only [Act.put, List.setIfInBounds_toArray, List.set_cons_succ, List.set_cons_zero]
      refine sV (.bool true) (W5) (by kernel_rfl) (by kernel_rfl) ?_
      simp only [Act.put, List.setIfInBounds_toArray, List.set_cons_succ, List.set_cons_zero]
      with_reducible refine sS (by kernel_rfl) ?_
      simp only [Act.put, List.setIfInBounds_toArray, List.set_cons_succ, List.set_cons_zero]
      with_reducible refine sS (by kernel_rfl) ?_
      simp only [Act.put, List.setIfInBounds_toArray, List.set_cons_succ, List.set_cons_zero]
      with_reducible refine sS (by kernel_rfl) ?_
      simp only [Act.put, List.setIfInBounds_toArray, List.set_cons_succ, List.set_cons_zero]
      with_reducible refine sS (by kernel_rfl) ?_
      simp only [Act.put, List.setIfInBounds_toArray, List.set_cons_succ, List.set_cons_zero]
      with_reducible refine sS (by kernel_rfl) ?_
      simp only [Act.put, List.setIfInBounds_toArray, List.set_cons_succ, List.set_cons_zero]
      with_reducible refine sS (by kernel_rfl) ?_
      simp only [Act.put, List.setIfInBounds_toArray, List.set_cons_succ, List.set_cons_zero]
      with_reducible refine sS (by kernel_rfl) ?_
      simp only [Act.put, List.setIfInBounds_toArray, List.set_cons_succ, List.set_cons_zero]
      with_reducible refine sS (by kernel_rfl) ?_
      simp only [Act.put, List.setIfInBounds_toArray, List.set_cons_succ, List.set_cons_zero]
      refine sV (.bool true) (W5) (by kernel_rfl) (by kernel_rfl) ?_
      simp only [Act.put, List.setIfInBounds_toArray, List.set_cons_succ, List.set_cons_zero]
      refine sV (.bool true) (W5) (by kernel_rfl) (by kernel_rfl) ?_
      simp only [Act.put, List.setIfInBounds_toArray, List.set_cons_succ, List.set_cons_zero]
      refine sV (.pointer (some ⟨W, 0, none⟩)) (W5) (by kernel_rfl) (by kernel_rfl) ?_
      simp only [Act.put, List.setIfInBounds_toArray, List.set_cons_succ, List.set_cons_zero]
      refine sL (by kernel_rfl) _ _ (by rfl) _ (by kernel_rfl) HB.out.swap.head _ 41 Try.underlying39 rfl (by kernel_rfl) tl ?_
      simp only [Act.put, List.setIfInBounds_toArray, List.set_cons_succ, List.set_cons_zero]
      refine sC (by kernel_rfl) (by kernel_rfl) (put_fit HB.out HO.out HL.out) ?_
      rintro w7 ⟨v7, hb7⟩
      simp only [Act.put, List.setIfInBounds_toArray, List.set_cons_succ, List.set_cons_zero]
      refine sV (.bool true) (w7) (by kernel_rfl) (by kernel_rfl) ?_
      simp only [Act.put, List.setIfInBounds_toArray, List.set_cons_succ, List.set_cons_zero]
      refine sV (.bool true) (w7) (by kernel_rfl) (by kernel_rfl) ?_
      simp only [Act.put, List.setIfInBounds_toArray, List.set_cons_succ, List.set_cons_zero]
      refine sV (.bool true) (w7) (by kernel_rfl) (by kernel_rfl) ?_
      simp only [Act.put, List.setIfInBounds_toArray, List.set_cons_succ, List.set_cons_zero]
      have HB7 := WirS.hide hb7
      clear hb7 HB HO c5 tl
      go_wp2_with fail
      go_ret
      exact .inl ⟨rfl, p, v7, HF.out.1, HF.out.2.1, fin_bag HB7.out⟩
  · have hz : restN bs p fe = 0 := by unfold restN; rw [if_neg hfe]
    obtain rfl : fe = E := by rw [← hE]; unfold endE; rw [hz]; simp
    rw [hz] at hRest
    have hq : (fe == 0) = false := by simpa using hfe
    have HFE := WirS.hide hfe
    clear hE hz hfe HC
    by_cases h4 : fe = 4
    · subst h4
      go_wp2_with ((go_at_call 33; refine (hRest.out).mono ?_; rintro e w6 ⟨rfl, hb⟩; have HB6 := WirS.hide hb; clear hb))
      go_ret
      exact .inr ⟨rfl, p, 4, fa, HFE.out, bad_bag HB6.out⟩
    · have hq4 : (fe == 4) = false := by simpa using h4
      clear h4
      go_wp2_with fail
      go_ret
      exact .inr ⟨rfl, p, fe, fa, HFE.out, bad_bag HB.out⟩
set_option maxHeartbeats 1000000 in
theorem again5 (w0 w : World) (l : List Thg) (R : Nat) (a : Option Addr) (c : Nat) (bs : List Int) (at' W : Nat) (lim : Int) (v : Value) (h : Bag w0 w (rdr R a c bs at' 0 0 :: wtr W lim v (bs.take at') 0 :: l)) (hl : (bs.length : Int) ≤ lim) :
    Calls Try.prog 49 #[.pointer (some ⟨R, 0, none⟩), .pointer (some ⟨W, 0, none⟩), .int .i64 5] w (Ag w0 l R a c bs at' W lim) := by
  have H := WirS.hide h
  clear h
  go_enter Try.func49, Try.ntmps49
  go_upto_region 1 with fail
  refine wp_region_lit ?_
  refine sV (.int .i64 5) (w) (by kernel_rfl) (by kernel_rfl) ?_
  simp only [Act.put, List.setIfInBounds_toArray, List.set_cons_succ, List.set_cons_zero]
  refine sV (.agg (thing0 5).cells.toArray) (w) (by kernel_rfl) (by kernel_rfl) ?_
  simp only [Act.put, List.setIfInBounds_toArray, List.set_cons_succ, List.set_cons_zero]
  refine sV (.pointer (some ⟨w.heap.size, 0, none⟩)) (w.alloc (.cells (thing0 0).cells.toArray 39)) (by kernel_rfl) (by kernel_rfl) ?_
  simp only [Act.put, List.setIfInBounds_toArray, List.set_cons_succ, List.set_cons_zero]
  refine stepStore (by rfl) _ _ _ (by rfl) _ (thing0 5).cells (by kernel_rfl) (by kernel_rfl) (At.new w 39 (thing0 0).cells) 41 (by kernel_rfl) (t0_len 0) (t0_len 5) (all_oneCell_toArray (one_cells _ rfl)) ?_
  obtain ⟨W1, e1⟩ : ∃ Y, Y = (w.alloc (.cells (thing0 0).cells.toArray 39)).setRow w.heap.size (thing0 5).cells.toArray := ⟨_, rfl⟩
  have b1 : Bag w0 W1 (box 39 w.heap.size (thing0 5).cells :: rdr R a c bs at' 0 0 :: wtr W lim v (bs.take at') 0 :: l) := by
    rw [e1]
    exact bag_box H.out rfl ((At.new w _ _).put _) (Below.setRowOwn (Below.alloc (Below.refl _ _) (Nat.le_refl _) _) (Nat.le_refl _) _)
  rw [← e1]
  generalize w.heap.size = X at b1 ⊢
  have C := WirS.hide (b_word b1.swap)
  clear e1 H b1
  go_upto_region 19 with ((go_at_call 42; refine (C.out).mono ?_; rintro e w2 ⟨x, p, fe, fa, rfl, hb, hc⟩; have c1 : w2.cell? ⟨X, 39, none⟩ = some (.int .u64 0) := hb.swap.head.cell 39; have f1 := hb.swap.head.frozen 39; have HB := WirS.hide hb.swap; have HC0 := WirS.hide hc; clear hb hc))
  obtain ⟨W3, e3⟩ : ∃ Y, Y = w2.setCell ⟨X, 39, none⟩ (.int .u64 x) := ⟨_, rfl⟩
  rw [← e3]
  obtain ⟨t, et⟩ : ∃ t : Td, t = { thing0 5 with u := x } := ⟨_, rfl⟩
  have hb3 : Bag w0 W3 (rdr R a c bs p fe fa :: box 39 X t.cells :: binb (.slice none 0 0) [] :: wtr W lim v (bs.take at') 0 :: l) := by
    rw [e3, et]
    exact turn3 (bag_nil (bag_set HB.out 39 (.int .u64 x)))
  have HC : Hid ((fe = 0 ∧ fa = 0 ∧ Okt t none 0 0 [] bs at' p) ∨ fe ≠ 0) := WirS.hide (HC0.out.imp (fun ⟨h1, h2, h3⟩ => ⟨h1, h2, by rw [et]; exact ok_word hb3.head.bytes h3⟩) (fun h => h.1))
  have HB3 := WirS.hide hb3
  clear HB hb3 c1 f1 e3 HC0
  clear et
  have CE := WirS.hide (show Calls Try.prog 35 #[.pointer (some ⟨R, 0, none⟩)] W3 (BR w0 _ R a c bs (.agg #[.int .i64 (endE bs p fe), .int .i64 (endA bs p fe fa)]) p fe fa) from br_end HB3.out)
  generalize hE : endE bs p fe = E at CE
  generalize endA bs p fe fa = A at CE
  go_upto_region 20 with ((go_at_call 35; refine (CE.out).mono ?_; rintro e w4 ⟨rfl, hb⟩; have HB := WirS.hide (hb.more (Below.alloc (Below.refl _ _) (Nat.le_refl _) (.cells #[.int .i64 E, .int .i64 A] 55))); clear hb HB3 CE))
  obtain ⟨W5, e5⟩ : ∃ Y, Y = w4.alloc (.cells #[.int .i64 E, .int .i64 A] 55) := ⟨_, rfl⟩
  have c5 : W5.cell? ⟨w4.heap.size, 0, none⟩ = some (.int .i64 E) := by rw [e5]; exact (At.new w4 55 [.int .i64 E, .int .i64 A]).cell 0
  rw [← e5] at HB ⊢
  clear e5
  generalize w4.heap.size = F at c5 ⊢
  have hRest := WirS.hide (br_rest HB.out)
  have HL := WirS.hide hl
  have tl := t.len
  clear hl
  rcases HC.out with ⟨rfl, rfl, ho⟩ | hfe
  · have HF := WirS.hide ho.fit
    have HO := WirS.hide ho
    clear ho HC
    by_cases hpos : 0 < restN bs p 0
    · obtain rfl : 4 = E := by rw [← hE]; unfold endE; rw [if_pos hpos]
      have g1 : ∀ U, (binOp .gtr 3 (.int .i64 (restN bs p 0)) (.int .i64 0)).run Try.prog U = .ok (.bool true) U := fun U => by simp [binOp, Op.intCmp, hpos]
      clear hE hpos
      refine wp_region_lit ?_
      refine sV (.pointer (some ⟨F, 0, none⟩)) (W5) (by kernel_rfl) (by kernel_rfl) ?_
      simp only [Act.put, List.setIfInBounds_toArray, List.set_cons_succ, List.set_cons_zero]
      refine sP (by kernel_rfl) _ _ (by rfl) ⟨F, 0, none⟩ (by kernel_rfl) (.int .i64 4) c5 (by kernel_rfl) ?_
      simp only [Act.put, List.setIfInBounds_toArray, List.set_cons_succ, List.set_cons_zero]
      refine sV (.bool false) (W5) (by kernel_rfl) (by kernel_rfl) ?_
      simp only [Act.put, List.setIfInBounds_toArray, List.set_cons_succ, List.set_cons_zero]
      refine sV (.bool false) (W5) (by kernel_rfl) (by kernel_rfl) ?_
      simp only [Act.put, List.setIfInBounds_toArray, List.set_cons_succ, List.set_cons_zero]
      refine sV (.pointer (some ⟨F, 0, none⟩)) (W5) (by kernel_rfl) (by kernel_rfl) ?_
      simp only [Act.put, List.setIfInBounds_toArray, List.set_cons_succ, List.set_cons_zero]
      refine sP (by kernel_rfl) _ _ (by rfl) ⟨F, 0, none⟩ (by kernel_rfl) (.int .i64 4) c5 (by kernel_rfl) ?_
      simp only [Act.put, List.setIfInBounds_toArray, List.set_cons_succ, List.set_cons_zero]
      refine sV (.bool true) (W5) (by kernel_rfl) (by kernel_rfl) ?_
      simp only [Act.put, List.setIfInBounds_toArray, List.set_cons_succ, List.set_cons_zero]
      refine sV (.bool true) (W5) (by kernel_rfl) (by kernel_rfl) ?_
      simp only [Act.put, List.setIfInBounds_toArray, List.set_cons_succ, List.set_cons_zero]
      refine sV (.pointer (some ⟨R, 0, none⟩)) (W5) (by kernel_rfl) (by kernel_rfl) ?_
      simp only [Act.put, List.setIfInBounds_toArray, List.set_cons_succ, List.set_cons_zero]
      refine sC (by kernel_rfl) (by kernel_rfl) hRest.out ?_
      rintro w6 hb6
      simp only [Act.put, List.setIfInBounds_toArray, List.set_cons_succ, List.set_cons_zero]
      refine sB (by kernel_rfl) .gtr _ _ _ _ (by rfl) (.int .i64 (restN bs p 0)) (.int .i64 0) (by kernel_rfl) (by kernel_rfl) (.bool true) (g1 _) (by kernel_rfl) ?_
      simp only [Act.put, List.setIfInBounds_toArray, List.set_cons_succ, List.set_cons_zero]
      refine sV (.bool true) (w6) (by kernel_rfl) (by kernel_rfl) ?_
      simp only [Act.put, List.setIfInBounds_toArray, List.set_cons_succ, List.set_cons_zero]
      refine sV (.bool true) (w6) (by kernel_rfl) (by kernel_rfl) ?_
      simp only [Act.put, List.setIfInBounds_toArray, List.set_cons_succ, List.set_cons_zero]
      refine sV (.bool true) (w6) (by kernel_rfl) (by kernel_rfl) ?_
      simp only [Act.put, List.setIfInBounds_toArray, List.set_cons_succ, List.set_cons_zero]
      refine sV (.pointer (some ⟨W, 0, none⟩)) (w6) (by kernel_rfl) (by kernel_rfl) ?_
      simp only [Act.put, List.setIfInBounds_toArray, List.set_cons_succ, List.set_cons_zero]
      refine sL (by kernel_rfl) _ _ (by rfl) _ (by kernel_rfl) hb6.swap.head _ 41 Try.underlying39 rfl (by kernel_rfl) tl ?_
      simp only [Act.put, List.setIfInBounds_toArray, List.set_cons_succ, List.set_cons_zero]
      refine sC (by kernel_rfl) (by kernel_rfl) (put_fit hb6 HO.out HL.out) ?_
      rintro w7 ⟨v7, hb7⟩
      simp only [Act.put, List.setIfInBounds_toArray, List.set_cons_succ, List.set_cons_zero]
      refine sV (.bool true) (w7) (by kernel_rfl) (by kernel_rfl) ?_
      simp only [Act.put, List.setIfInBounds_toArray, List.set_cons_succ, List.set_cons_zero]
      refine sV (.bool true) (w7) (by kernel_rfl) (by kernel_rfl) ?_
      simp only [Act.put, List.setIfInBounds_toArray, List.set_cons_succ, List.set_cons_zero]
      refine sV (.bool true) (w7) (by kernel_rfl) (by kernel_rfl) ?_
      simp only [Act.put, List.setIfInBounds_toArray, List.set_cons_succ, List.set_cons_zero]
      have HB7 := WirS.hide hb7
      clear hb7 hb6 hRest HO c5 g1 tl
      go_wp2_with fail
      go_ret
      exact .inl ⟨rfl, p, v7, HF.out.1, HF.out.2.1, fin_bag HB7.out⟩
    · obtain rfl : 0 = E := by rw [← hE]; unfold endE; rw [if_neg hpos]
      clear hE hpos hRest
      refine wp_region_lit ?_
      refine sV (.pointer (some ⟨F, 0, none⟩)) (W5) (by kernel_rfl) (by kernel_rfl) ?_
      simp only [Act.put, List.setIfInBounds_toArray, List.set_cons_succ, List.set_cons_zero]
      refine sP (by kernel_rfl) _ _ (by rfl) ⟨F, 0, none⟩ (by kernel_rfl) (.int .i64 0) c5 (by kernel_rfl) ?_
      simp only [Act.put, List.setIfInBounds_toArray, List.set_cons_succ, List.set_cons_zero]
      refine sV (.bool true) (W5) (by kernel_rfl) (by kernel_rfl) ?_
      simp only [Act.put, List.setIfInBounds_toArray, List.set_cons_succ, List.set_cons_zero]
      refine sV (.bool true) (W5) (by kernel_rfl) (by kernel_rfl) ?_
      simp only [Act.put, List.setIfInBounds_toArray, List.set_cons_succ, List.set_cons_zero]
      with_reducible refine sS (by kernel_rfl) ?_
      simp only [Act.put, List.setIfInBounds_toArray, List.set_cons_succ, List.set_cons_zero]
      with_reducible refine sS (by kernel_rfl) ?_
      simp only [Act.put, List.setIfInBounds_toArray, List.set_cons_succ, List.set_cons_zero]
      with_reducible refine sS (by kernel_rfl) ?_
      simp only [Act.put, List.setIfInBounds_toArray, List.set_cons_succ, List.set_cons_zero]
      with_reducible refine sS (by kernel_rfl) ?_
      simp only [Act.put, List.setIfInBounds_toArray, List.set_cons_succ, List.set_cons_zero]
      with_reducible refine sS (by kernel_rfl) ?_
      simp only [Act.put, List.setIfInBounds_toArray, List.set_cons_succ, List.set_cons_zero]
      with_reducible refine sS (by kernel_rfl) ?_
      simp only [Act.put, List.setIfInBounds_toArray, List.set_cons_succ, List.set_cons_zero]
      with_reducible refine sS (by kernel_rfl) ?_
      simp only [Act.put, List.setIfInBounds_toArray, List.set_cons_succ, List.set_cons_zero]
      with_reducible refine sS (by kernel_rfl) ?_
      simp only [Act.put, List.setIfInBounds_toArray, List.set_cons_succ, List.set_cons_zero]
      refine sV (.bool true) (W5) (by kernel_rfl) (by kernel_rfl) ?_
      simp only [Act.put, List.setIfInBounds_toArray, List.set_cons_succ, List.set_cons_zero]
      refine sV (.bool true) (W5) (by kernel_rfl) (by kernel_rfl) ?_
      simp only [Act.put, List.setIfInBounds_toArray, List.set_cons_succ, List.set_cons_zero]
      refine sV (.pointer (some ⟨W, 0, none⟩)) (W5) (by kernel_rfl) (by kernel_rfl) ?_
      simp only [Act.put, List.setIfInBounds_toArray, List.set_cons_succ, List.set_cons_zero]
      refine sL (by kernel_rfl) _ _ (by rfl) _ (by kernel_rfl) HB.out.swap.head _ 41 Try.underlying39 rfl (by kernel_rfl) tl ?_
      simp only [Act.put, List.setIfInBounds_toArray, List.set_cons_succ, List.set_cons_zero]
      refine sC (by kernel_rfl) (by kernel_rfl) (put_fit HB.out HO.out HL.out) ?_
      rintro w7 ⟨v7, hb7⟩
      simp only [Act.put, List.setIfInBounds_toArray, List.set_cons_succ, List.set_cons_zero]
      refine sV (.bool true) (w7) (by kernel_rfl) (by kernel_rfl) ?_
      simp only [Act.put, List.setIfInBounds_toArray, List.set_cons_succ, List.set_cons_zero]
      refine sV (.bool true) (w7) (by kernel_rfl) (by kernel_rfl) ?_
      simp only [Act.put, List.setIfInBounds_toArray, List.set_cons_succ, List.set_cons_zero]
      refine sV (.bool true) (w7) (by kernel_rfl) (by kernel_rfl) ?_
      simp only [Act.put, List.setIfInBounds_toArray, List.set_cons_succ, List.set_cons_zero]
      have HB7 := WirS.hide hb7
      clear hb7 HB HO c5 tl
      go_wp2_with fail
      go_ret
      exact .inl ⟨rfl, p, v7, HF.out.1, HF.out.2.1, fin_bag HB7.out⟩
  · have hz : restN bs p fe = 0 := by unfold restN; rw [if_neg hfe]
    obtain rfl : fe = E := by rw [← hE]; unfold endE; rw [hz]; simp
    rw [hz] at hRest
    have hq : (fe == 0) = false := by simpa using hfe
    have HFE := WirS.hide hfe
    clear hE hz hfe HC
    by_cases h4 : fe = 4
    · subst h4
      go_wp2_with ((go_at_call 33; refine (hRest.out).mono ?_; rintro e w6 ⟨rfl, hb⟩; have HB6 := WirS.hide hb; clear hb))
      go_ret
      exact .inr ⟨rfl, p, 4, fa, HFE.out, bad_bag HB6.out⟩
    · have hq4 : (fe == 4) = false := by simpa using h4
      clear h4
      go_wp2_with fail
      go_ret
      exact .inr ⟨rfl, p, fe, fa, HFE.out, bad_bag HB.out⟩
set_option maxHeartbeats 1000000 in
theorem again6 (w0 w : World) (l : List Thg) (R : Nat) (a : Option Addr) (c : Nat) (bs : List Int) (at' W : Nat) (lim : Int) (v : Value) (h : Bag w0 w (rdr R a c bs at' 0 0 :: wtr W lim v (bs.take at') 0 :: l)) (hl : (bs.length : Int) ≤ lim) :
    Calls Try.prog 49 #[.pointer (some ⟨R, 0, none⟩), .pointer (some ⟨W, 0, none⟩), .int .i64 6] w (Ag w0 l R a c bs at' W lim) := by
  have H := WirS.hide h
  clear h
  go_enter Try.func49, Try.ntmps49
  go_upto_region 1 with fail
  refine wp_region_lit ?_
  refine sV (.int .i64 6) (w) (by kernel_rfl) (by kernel_rfl) ?_
  simp only [Act.put, List.setIfInBounds_toArray, List.set_cons_succ, List.set_cons_zero]
  refine sV (.agg (thing0 6).cells.toArray) (w) (by kernel_rfl) (by kernel_rfl) ?_
  simp only [Act.put, List.setIfInBounds_toArray, List.set_cons_succ, List.set_cons_zero]
  refine sV (.pointer (some ⟨w.heap.size, 0, none⟩)) (w.alloc (.cells (thing0 0).cells.toArray 39)) (by kernel_rfl) (by kernel_rfl) ?_
  simp only [Act.put, List.setIfInBounds_toArray, List.set_cons_succ, List.set_cons_zero]
  refine stepStore (by rfl) _ _ _ (by rfl) _ (thing0 6).cells (by kernel_rfl) (by kernel_rfl) (At.new w 39 (thing0 0).cells) 41 (by kernel_rfl) (t0_len 0) (t0_len 6) (all_oneCell_toArray (one_cells _ rfl)) ?_
  obtain ⟨W1, e1⟩ : ∃ Y, Y = (w.alloc (.cells (thing0 0).cells.toArray 39)).setRow w.heap.size (thing0 6).cells.toArray := ⟨_, rfl⟩
  have b1 : Bag w0 W1 (box 39 w.heap.size (thing0 6).cells :: rdr R a c bs at' 0 0 :: wtr W lim v (bs.take at') 0 :: l) := by
    rw [e1]
    exact bag_box H.out rfl ((At.new w _ _).put _) (Below.setRowOwn (Below.alloc (Below.refl _ _) (Nat.le_refl _) _) (Nat.le_refl _) _)
  rw [← e1]
  generalize w.heap.size = X at b1 ⊢
  have C := WirS.hide (b_pace b1.swap)
  clear e1 H b1
  have hfb := fbits
  go_upto_region 19 with ((go_at_call 43; refine (C.out).mono ?_; rintro e w2 ⟨x, p, fe, fa, rfl, hb, hc⟩; have c1 : w2.cell? ⟨X, 39, none⟩ = some (.int .u64 0) := hb.swap.head.cell 39; have f1 := hb.swap.head.frozen 39; have HB := WirS.hide hb.swap; have HC0 := WirS.hide hc; clear hb hc))
  obtain ⟨W3, e3⟩ : ∃ Y, Y = w2.setCell ⟨X, 39, none⟩ (.int .u64 (x : Int)) := ⟨_, rfl⟩
  rw [← e3]
  obtain ⟨t, et⟩ : ∃ t : Td, t = { thing0 6 with u := (x : Int) } := ⟨_, rfl⟩
  have hb3 : Bag w0 W3 (rdr R a c bs p fe fa :: box 39 X t.cells :: binb (.slice none 0 0) [] :: wtr W lim v (bs.take at') 0 :: l) := by
    rw [e3, et]
    exact turn3 (bag_nil (bag_set HB.out 39 (.int .u64 (x : Int))))
  have HC : Hid ((fe = 0 ∧ fa = 0 ∧ Okt t none 0 0 [] bs at' p) ∨ fe ≠ 0) := WirS.hide (HC0.out.imp (fun ⟨h1, h2, h3⟩ => ⟨h1, h2, by rw [et]; exact ok_pace hb3.head.bytes h3⟩) (fun h => h.1))
  have HB3 := WirS.hide hb3
  clear HB hb3 c1 f1 e3 HC0 hfb
  clear et
  have CE := WirS.hide (show Calls Try.prog 35 #[.pointer (some ⟨R, 0, none⟩)] W3 (BR w0 _ R a c bs (.agg #[.int .i64 (endE bs p fe), .int .i64 (endA bs p fe fa)]) p fe fa) from br_end HB3.out)
  generalize hE : endE bs p fe = E at CE
  generalize endA bs p fe fa = A at CE
  go_upto_region 20 with ((go_at_call 35; refine (CE.out).mono ?_; rintro e w4 ⟨rfl, hb⟩; have HB := WirS.hide (hb.more (Below.alloc (Below.refl _ _) (Nat.le_refl _) (.cells #[.int .i64 E, .int .i64 A] 55))); clear hb HB3 CE))
  obtain ⟨W5, e5⟩ : ∃ Y, Y = w4.alloc (.cells #[.int .i64 E, .int .i64 A] 55) := ⟨_, rfl⟩
  have c5 : W5.cell? ⟨w4.heap.size, 0, none⟩ = some (.int .i64 E) := by rw [e5]; exact (At.new w4 55 [.int .i64 E, .int .i64 A]).cell 0
  rw [← e5] at HB ⊢
  clear e5
  generalize w4.heap.size = F at c5 ⊢
  have hRest := WirS.hide (br_rest HB.out)
  have HL := WirS.hide hl
  have tl := t.len
  clear hl
  rcases HC.out with ⟨rfl, rfl, ho⟩ | hfe
  · have HF := WirS.hide ho.fit
    have HO := WirS.hide ho
    clear ho HC
    by_cases hpos : 0 < restN bs p 0
    · obtain rfl : 4 = E := by rw [← hE]; unfold endE; rw [if_pos hpos]
      have g1 : ∀ U, (binOp .gtr 3 (.int .i64 (restN bs p 0)) (.int .i64 0)).run Try.prog U = .ok (.bool true) U := fun U => by simp [binOp, Op.intCmp, hpos]
      clear hE hpos
      refine wp_region_lit ?_
      refine sV (.pointer (some ⟨F, 0, none⟩)) (W5) (by kernel_rfl) (by kernel_rfl) ?_
      simp only [Act.put, List.setIfInBounds_toArray, List.set_cons_succ, List.set_cons_zero]
      refine sP (by kernel_rfl) _ _ (by rfl) ⟨F, 0, none⟩ (by kernel_rfl) (.int .i64 4) c5 (by kernel_rfl) ?_
      simp only [Act.put, List.setIfInBounds_toArray, List.set_cons_succ, List.set_cons_zero]
      refine sV (.bool false) (W5) (by kernel_rfl) (by kernel_rfl) ?_
      simp only [Act.put, List.setIfInBounds_toArray, List.set_cons_succ, List.set_cons_zero]
      refine sV (.bool false) (W5) (by kernel_rfl) (by kernel_rfl) ?_
      simp only [Act.put, List.setIfInBounds_toArray, List.set_cons_succ, List.set_cons_zero]
      refine sV (.pointer (some ⟨F, 0, none⟩)) (W5) (by kernel_rfl) (by kernel_rfl) ?_
      simp only [Act.put, List.setIfInBounds_toArray, List.set_cons_succ, List.set_cons_zero]
      refine sP (by kernel_rfl) _ _ (by rfl) ⟨F, 0, none⟩ (by kernel_rfl) (.int .i64 4) c5 (by kernel_rfl) ?_
      simp only [Act.put, List.setIfInBounds_toArray, List.set_cons_succ, List.set_cons_zero]
      refine sV (.bool true) (W5) (by kernel_rfl) (by kernel_rfl) ?_
      simp only [Act.put, List.setIfInBounds_toArray, List.set_cons_succ, List.set_cons_zero]
      refine sV (.bool true) (W5) (by kernel_rfl) (by kernel_rfl) ?_
      simp only [Act.put, List.setIfInBounds_toArray, List.set_cons_succ, List.set_cons_zero]
      refine sV (.pointer (some ⟨R, 0, none⟩)) (W5) (by kernel_rfl) (by kernel_rfl) ?_
      simp only [Act.put, List.setIfInBounds_toArray, List.set_cons_succ, List.set_cons_zero]
      refine sC (by kernel_rfl) (by kernel_rfl) hRest.out ?_
      rintro w6 hb6
      simp only [Act.put, List.setIfInBounds_toArray, List.set_cons_succ, List.set_cons_zero]
      refine sB (by kernel_rfl) .gtr _ _ _ _ (by rfl) (.int .i64 (restN bs p 0)) (.int .i64 0) (by kernel_rfl) (by kernel_rfl) (.bool true) (g1 _) (by kernel_rfl) ?_
      simp only [Act.put, List.setIfInBounds_toArray, List.set_cons_succ, List.set_cons_zero]
      refine sV (.bool true) (w6) (by kernel_rfl) (by kernel_rfl) ?_
      simp only [Act.put, List.setIfInBounds_toArray, List.set_cons_succ, List.set_cons_zero]
      refine sV (.bool true) (w6) (by kernel_rfl) (by kernel_rfl) ?_
      simp only [Act.put, List.setIfInBounds_toArray, List.set_cons_succ, List.set_cons_zero]
      refine sV (.bool true) (w6) (by kernel_rfl) (by kernel_rfl) ?_
      simp only [Act.put, List.setIfInBounds_toArray, List.set_cons_succ, List.set_cons_zero]
      refine sV (.pointer (some ⟨W, 0, none⟩)) (w6) (by kernel_rfl) (by kernel_rfl) ?_
      simp only [Act.put, List.setIfInBounds_toArray, List.set_cons_succ, List.set_cons_zero]
      refine sL (by kernel_rfl) _ _ (by rfl) _ (by kernel_rfl) hb6.swap.head _ 41 Try.underlying39 rfl (by kernel_rfl) tl ?_
      simp only [Act.put, List.setIfInBounds_toArray, List.set_cons_succ, List.set_cons_zero]
      refine sC (by kernel_rfl) (by kernel_rfl) (put_fit hb6 HO.out HL.out) ?_
      rintro w7 ⟨v7, hb7⟩
      simp only [Act.put, List.setIfInBounds_toArray, List.set_cons_succ, List.set_cons_zero]
      refine sV (.bool true) (w7) (by kernel_rfl) (by kernel_rfl) ?_
      simp only [Act.put, List.setIfInBounds_toArray, List.set_cons_succ, List.set_cons_zero]
      refine sV (.bool true) (w7) (by kernel_rfl) (by kernel_rfl) ?_
      simp only [Act.put, List.setIfInBounds_toArray, List.set_cons_succ, List.set_cons_zero]
      refine sV (.bool true) (w7) (by kernel_rfl) (by kernel_rfl) ?_
      simp only [Act.put, List.setIfInBounds_toArray, List.set_cons_succ, List.set_cons_zero]
      have HB7 := WirS.hide hb7
      clear hb7 hb6 hRest HO c5 g1 tl
      go_wp2_with fail
      go_ret
      exact .inl ⟨rfl, p, v7, HF.out.1, HF.out.2.1, fin_bag HB7.out⟩
    · obtain rfl : 0 = E := by rw [← hE]; unfold endE; rw [if_neg hpos]
      clear hE hpos hRest
      refine wp_region_lit ?_
      refine sV (.pointer (some ⟨F, 0, none⟩)) (W5) (by kernel_rfl) (by kernel_rfl) ?_
      simp only [Act.put, List.setIfInBounds_toArray, List.set_cons_succ, List.set_cons_zero]
      refine sP (by kernel_rfl) _ _ (by rfl) ⟨F, 0, none⟩ (by kernel_rfl) (.int .i64 0) c5 (by kernel_rfl) ?_
      simp only [Act.put, List.setIfInBounds_toArray, List.set_cons_succ, List.set_cons_zero]
      refine sV (.bool true) (W5) (by kernel_rfl) (by kernel_rfl) ?_
      simp only [Act.put, List.setIfInBounds_toArray, List.set_cons_succ, List.set_cons_zero]
      refine sV (.bool true) (W5) (by kernel_rfl) (by kernel_rfl) ?_
      simp only [Act.put, List.setIfInBounds_toArray, List.set_cons_succ, List.set_cons_zero]
      with_reducible refine sS (by kernel_rfl) ?_
      simp only [Act.put, List.setIfInBounds_toArray, List.set_cons_succ, List.set_cons_zero]
      with_reducible refine sS (by kernel_rfl) ?_
      simp only [Act.put, List.setIfInBounds_toArray, List.set_cons_succ, List.set_cons_zero]
      with_reducible refine sS (by kernel_rfl) ?_
      simp only [Act.put, List.setIfInBounds_toArray, List.set_cons_succ, List.set_cons_zero]
      with_reducible refine sS (by kernel_rfl) ?_
      simp only [Act.put, List.setIfInBounds_toArray, List.set_cons_succ, List.set_cons_zero]
      with_reducible refine sS (by kernel_rfl) ?_
      simp only [Act.put, List.setIfInBounds_toArray, List.set_cons_succ, List.set_cons_zero]
      with_reducible refine sS (by kernel_rfl) ?_
      simp only [Act.put, List.setIfInBounds_toArray, List.set_cons_succ, List.set_cons_zero]
      with_reducible refine sS (by kernel_rfl) ?_
      simp only [Act.put, List.setIfInBounds_toArray, List.set_cons_succ, List.set_cons_zero]
      with_reducible refine sS (by kernel_rfl) ?_
      simp only [Act.put, List.setIfInBounds_toArray, List.set_cons_succ, List.set_cons_zero]
      refine sV (.bool true) (W5) (by kernel_rfl) (by kernel_rfl) ?_
      simp only [Act.put, List.setIfInBounds_toArray, List.set_cons_succ, List.set_cons_zero]
      refine sV (.bool true) (W5) (by kernel_rfl) (by kernel_rfl) ?_
      simp only [Act.put, List.setIfInBounds_toArray, List.set_cons_succ, List.set_cons_zero]
      refine sV (.pointer (some ⟨W, 0, none⟩)) (W5) (by kernel_rfl) (by kernel_rfl) ?_
      simp only [Act.put, List.setIfInBounds_toArray, List.set_cons_succ, List.set_cons_zero]
      refine sL (by kernel_rfl) _ _ (by rfl) _ (by kernel_rfl) HB.out.swap.head _ 41 Try.underlying39 rfl (by kernel_rfl) tl ?_
      simp only [Act.put, List.setIfInBounds_toArray, List.set_cons_succ, List.set_cons_zero]
      refine sC (by kernel_rfl) (by kernel_rfl) (put_fit HB.out HO.out HL.out) ?_
      rintro w7 ⟨v7, hb7⟩
      simp only [Act.put, List.setIfInBounds_toArray, List.set_cons_succ, List.set_cons_zero]
      refine sV (.bool true) (w7) (by kernel_rfl) (by kernel_rfl) ?_
      simp only [Act.put, List.setIfInBounds_toArray, List.set_cons_succ, List.set_cons_zero]
      refine sV (.bool true) (w7) (by kernel_rfl) (by kernel_rfl) ?_
      simp only [Act.put, List.setIfInBounds_toArray, List.set_cons_succ, List.set_cons_zero]
      refine sV (.bool true) (w7) (by kernel_rfl) (by kernel_rfl) ?_
      simp only [Act.put, List.setIfInBounds_toArray, List.set_cons_succ, List.set_cons_zero]
      have HB7 := WirS.hide hb7
      clear hb7 HB HO c5 tl
      go_wp2_with fail
      go_ret
      exact .inl ⟨rfl, p, v7, HF.out.1, HF.out.2.1, fin_bag HB7.out⟩
  · have hz : restN bs p fe = 0 := by unfold restN; rw [if_neg hfe]
    obtain rfl : fe = E := by rw [← hE]; unfold endE; rw [hz]; simp
    rw [hz] at hRest
    have hq : (fe == 0) = false := by simpa using hfe
    have HFE := WirS.hide hfe
    clear hE hz hfe HC
    by_cases h4 : fe = 4
    · subst h4
      go_wp2_with ((go_at_call 33; refine (hRest.out).mono ?_; rintro e w6 ⟨rfl, hb⟩; have HB6 := WirS.hide hb; clear hb))
      go_ret
      exact .inr ⟨rfl, p, 4, fa, HFE.out, bad_bag HB6.out⟩
    · have hq4 : (fe == 4) = false := by simpa using h4
      clear h4
      go_wp2_with fail
      go_ret
      exact .inr ⟨rfl, p, fe, fa, HFE.out, bad_bag HB.out⟩
set_option maxHeartbeats 1000000 in
theorem again7 (w0 w : World) (l : List Thg) (R : Nat) (a : Option Addr) (c : Nat) (bs : List Int) (at' W : Nat) (lim : Int) (v : Value) (h : Bag w0 w (rdr R a c bs at' 0 0 :: wtr W lim v (bs.take at') 0 :: l)) (hl : (bs.length : Int) ≤ lim) :
    Calls Try.prog 49 #[.pointer (some ⟨R, 0, none⟩), .pointer (some ⟨W, 0, none⟩), .int .i64 7] w (Ag w0 l R a c bs at' W lim) := by
  have H := WirS.hide h
  clear h
  go_enter Try.func49, Try.ntmps49
  go_upto_region 1 with fail
  refine wp_region_lit ?_
  refine sV (.int .i64 7) (w) (by kernel_rfl) (by kernel_rfl) ?_
  simp only [Act.put, List.setIfInBounds_toArray, List.set_cons_succ, List.set_cons_zero]
  refine sV (.agg (thing0 7).cells.toArray) (w) (by kernel_rfl) (by kernel_rfl) ?_
  simp only [Act.put, List.setIfInBounds_toArray, List.set_cons_succ, List.set_cons_zero]
  refine sV (.pointer (some ⟨w.heap.size, 0, none⟩)) (w.alloc (.cells (thing0 0).cells.toArray 39)) (by kernel_rfl) (by kernel_rfl) ?_
  simp only [Act.put, List.setIfInBounds_toArray, List.set_cons_succ, List.set_cons_zero]
  refine stepStore (by rfl) _ _ _ (by rfl) _ (thing0 7).cells (by kernel_rfl) (by kernel_rfl) (At.new w 39 (thing0 0).cells) 41 (by kernel_rfl) (t0_len 0) (t0_len 7) (all_oneCell_toArray (one_cells _ rfl)) ?_
  obtain ⟨W1, e1⟩ : ∃ Y, Y = (w.alloc (.cells (thing0 0).cells.toArray 39)).setRow w.heap.size (thing0 7).cells.toArray := ⟨_, rfl⟩
  have b1 : Bag w0 W1 (box 39 w.heap.size (thing0 7).cells :: rdr R a c bs at' 0 0 :: wtr W lim v (bs.take at') 0 :: l) := by
    rw [e1]
    exact bag_box H.out rfl ((At.new w _ _).put _) (Below.setRowOwn (Below.alloc (Below.refl _ _) (Nat.le_refl _) _) (Nat.le_refl _) _)
  rw [← e1]
  generalize w.heap.size = X at b1 ⊢
  have C := WirS.hide (b_bool b1.swap)
  clear e1 H b1
  go_upto_region 19 with ((go_at_call 44; refine (C.out).mono ?_; rintro e w2 ⟨x, p, fe, fa, rfl, hb, hc⟩; have c1 : w2.cell? ⟨X, 40, none⟩ = some (.bool false) := hb.swap.head.cell 40; have f1 := hb.swap.head.frozen 40; have HB := WirS.hide hb.swap; have HC0 := WirS.hide hc; clear hb hc))
  obtain ⟨W3, e3⟩ : ∃ Y, Y = w2.setCell ⟨X, 40, none⟩ (.bool x) := ⟨_, rfl⟩
  rw [← e3]
  obtain ⟨t, et⟩ : ∃ t : Td, t = { thing0 7 with is := x } := ⟨_, rfl⟩
  have hb3 : Bag w0 W3 (rdr R a c bs p fe fa :: box 39 X t.cells :: binb (.slice none 0 0) [] :: wtr W lim v (bs.take at') 0 :: l) := by
    rw [e3, et]
    exact turn3 (bag_nil (bag_set HB.out 40 (.bool x)))
  have HC : Hid ((fe = 0 ∧ fa = 0 ∧ Okt t none 0 0 [] bs at' p) ∨ fe ≠ 0) := WirS.hide (HC0.out.imp (fun ⟨h1, h2, h3⟩ => ⟨h1, h2, by rw [et]; exact ok_bool hb3.head.bytes h3⟩) (fun h => h.1))
  have HB3 := WirS.hide hb3
  clear HB hb3 c1 f1 e3 HC0
  clear et
  have CE := WirS.hide (show Calls Try.prog 35 #[.pointer (some ⟨R, 0, none⟩)] W3 (BR w0 _ R a c bs (.agg #[.int .i64 (endE bs p fe), .int .i64 (endA bs p fe fa)]) p fe fa) from br_end HB3.out)
  generalize hE : endE bs p fe = E at CE
  generalize endA bs p fe fa = A at CE
  go_upto_region 20 with ((go_at_call 35; refine (CE.out).mono ?_; rintro e w4 ⟨rfl, hb⟩; have HB := WirS.hide (hb.more (Below.alloc (Below.refl _ _) (Nat.le_refl _) (.cells #[.int .i64 E, .int .i64 A] 55))); clear hb HB3 CE))
  obtain ⟨W5, e5⟩ : ∃ Y, Y = w4.alloc (.cells #[.int .i64 E, .int .i64 A] 55) := ⟨_, rfl⟩
  have c5 : W5.cell? ⟨w4.heap.size, 0, none⟩ = some (.int .i64 E) := by rw [e5]; exact (At.new w4 55 [.int .i64 E, .int .i64 A]).cell 0
  rw [← e5] at HB ⊢
  clear e5
  generalize w4.heap.size = F at c5 ⊢
  have hRest := WirS.hide (br_rest HB.out)
  have HL := WirS.hide hl
  have tl := t.len
  clear hl
  rcases HC.out with ⟨rfl, rfl, ho⟩ | hfe
  · have HF := WirS.hide ho.fit
    have HO := WirS.hide ho
    clear ho HC
    by_cases hpos : 0 < restN bs p 0
    · obtain rfl : 4 = E := by rw [← hE]; unfold endE; rw [if_pos hpos]
      have g1 : ∀ U, (binOp .gtr 3 (.int .i64 (restN bs p 0)) (.int .i64 0)).run Try.prog U = .ok (.bool true) U := fun U => by simp [binOp, Op.intCmp, hpos]
      clear hE hpos
      refine wp_region_lit ?_
      refine sV (.pointer (some ⟨F, 0, none⟩)) (W5) (by kernel_rfl) (by kernel_rfl) ?_
      simp only [Act.put, List.setIfInBounds_toArray, List.set_cons_succ, List.set_cons_zero]
      refine sP (by kernel_rfl) _ _ (by rfl) ⟨F, 0, none⟩ (by kernel_rfl) (.int .i64 4) c5 (by kernel_rfl) ?_
      simp only [Act.put, List.setIfInBounds_toArray, List.set_cons_succ, List.set_cons_zero]
      refine sV (.bool false) (W5) (by kernel_rfl) (by kernel_rfl) ?_
      simp only [Act.put, List.setIfInBounds_toArray, List.set_cons_succ, List.set_cons_zero]
      refine sV (.bool false) (W5) (by kernel_rfl) (by kernel_rfl) ?_
      simp only [Act.put, List.setIfInBounds_toArray, List.set_cons_succ, List.set_cons_zero]
      refine sV (.pointer (some ⟨F, 0, none⟩)) (W5) (by kernel_rfl) (by kernel_rfl) ?_
      simp only [Act.put, List.setIfInBounds_toArray, List.set_cons_succ, List.set_cons_zero]
      refine sP (by kernel_rfl) _ _ (by rfl) ⟨F, 0, none⟩ (by kernel_rfl) (.int .i64 4) c5 (by kernel_rfl) ?_
      simp only [Act.put, List.setIfInBounds_toArray, List.set_cons_succ, List.set_cons_zero]
      refine sV (.bool true) (W5) (by kernel_rfl) (by kernel_rfl) ?_
      simp only [Act.put, List.setIfInBounds_toArray, List.set_cons_succ, List.set_cons_zero]
      refine sV (.bool true) (W5) (by kernel_rfl) (by kernel_rfl) ?_
      simp only [Act.put, List.setIfInBounds_toArray, List.set_cons_succ, List.set_cons_zero]
      refine sV (.pointer (some ⟨R, 0, none⟩)) (W5) (by kernel_rfl) (by kernel_rfl) ?_
      simp only [Act.put, List.setIfInBounds_toArray, List.set_cons_succ, List.set_cons_zero]
      refine sC (by kernel_rfl) (by kernel_rfl) hRest.out ?_
      rintro w6 hb6
      simp only [Act.put, List.setIfInBounds_toArray, List.set_cons_succ, List.set_cons_zero]
      refine sB (by kernel_rfl) .gtr _ _ _ _ (by rfl) (.int .i64 (restN bs p 0)) (.int .i64 0) (by kernel_rfl) (by kernel_rfl) (.bool true) (g1 _) (by kernel_rfl) ?_
      simp only [Act.put, List.setIfInBounds_toArray, List.set_cons_succ, List.set_cons_zero]
      refine sV (.bool true) (w6) (by kernel_rfl) (by kernel_rfl) ?_
      simp only [Act.put, List.setIfInBounds_toArray, List.set_cons_succ, List.set_cons_zero]
      refine sV (.bool true) (w6) (by kernel_rfl) (by kernel_rfl) ?_
      simp only [Act.put, List.setIfInBounds_toArray, List.set_cons_succ, List.set_cons_zero]
      refine sV (.bool true) (w6) (by kernel_rfl) (by kernel_rfl) ?_
      simp only [Act.put, List.setIfInBounds_toArray, List.set_cons_succ, List.set_cons_zero]
      refine sV (.pointer (some ⟨W, 0, none⟩)) (w6) (by kernel_rfl) (by kernel_rfl) ?_
      simp only [Act.put, List.setIfInBounds_toArray, List.set_cons_succ, List.set_cons_zero]
      refine sL (by kernel_rfl) _ _ (by rfl) _ (by kernel_rfl) hb6.swap.head _ 41 Try.underlying39 rfl (by kernel_rfl) tl ?_
      simp only [Act.put, List.setIfInBounds_toArray, List.set_cons_succ, List.set_cons_zero]
      refine sC (by kernel_rfl) (by kernel_rfl) (put_fit hb6 HO.out HL.out) ?_
      rintro w7 ⟨v7, hb7⟩
      simp only [Act.put, List.setIfInBounds_toArray, List.set_cons_succ, List.set_cons_zero]
      refine sV (.bool true) (w7) (by kernel_rfl) (by kernel_rfl) ?_
      simp only [Act.put, List.setIfInBounds_toArray, List.set_cons_succ, List.set_cons_zero]
      refine sV (.bool true) (w7) (by kernel_rfl) (by kernel_rfl) ?_
      simp only [Act.put, List.setIfInBounds_toArray, List.set_cons_succ, List.set_cons_zero]
      refine sV (.bool true) (w7) (by kernel_rfl) (by kernel_rfl) ?_
      simp only [Act.put, List.setIfInBounds_toArray, List.set_cons_succ, List.set_cons_zero]
      have HB7 := WirS.hide hb7
      clear hb7 hb6 hRest HO c5 g1 tl
      go_wp2_with fail
      go_ret
      exact .inl ⟨rfl, p, v7, HF.out.1, HF.out.2.1, fin_bag HB7.out⟩
    · obtain rfl : 0 = E := by rw [← hE]; unfold endE; rw [if_neg hpos]
      clear hE hpos hRest
      refine wp_region_lit ?_
      refine sV (.pointer (some ⟨F, 0, none⟩)) (W5) (by kernel_rfl) (by kernel_rfl) ?_
      simp only [Act.put, List.setIfInBounds_toArray, List.set_cons_succ, List.set_cons_zero]
      refine sP (by kernel_rfl) _ _ (by rfl) ⟨F, 0, none⟩ (by kernel_rfl) (.int .i64 0) c5 (by kernel_rfl) ?_
      simp only [Act.put, List.setIfInBounds_toArray, List.set_cons_succ, List.set_cons_zero]
      refine sV (.bool true) (W5) (by kernel_rfl) (by kernel_rfl) ?_
      simp only [Act.put, List.setIfInBounds_toArray, List.set_cons_succ, List.set_cons_zero]
      refine sV (.bool true) (W5) (by kernel_rfl) (by kernel_rfl) ?_
      simp only [Act.put, List.setIfInBounds_toArray, List.set_cons_succ, List.set_cons_zero]
      with_reducible refine sS (by kernel_rfl) ?_
      simp only [Act.put, List.setIfInBounds_toArray, List.set_cons_succ, List.set_cons_zero]
      with_reducible refine sS (by kernel_rfl) ?_
      simp only [Act.put, List.setIfInBounds_toArray, List.set_cons_succ, List.set_cons_zero]
      with_reducible refine sS (by kernel_rfl) ?_
      simp only [Act.put, List.setIfInBounds_toArray, List.set_cons_succ, List.set_cons_zero]
      with_reducible refine sS (by kernel_rfl) ?_
      simp only [Act.put, List.setIfInBounds_toArray, List.set_cons_succ, List.set_cons_zero]
      with_reducible refine sS (by kernel_rfl) ?_
      simp only [Act.put, List.setIfInBounds_toArray, List.set_cons_succ, List.set_cons_zero]
      with_reducible refine sS (by kernel_rfl) ?_
      simp only [Act.put, List.setIfInBounds_toArray, List.set_cons_succ, List.set_cons_zero]
      with_reducible refine sS (by kernel_rfl) ?_
      simp only [Act.put, List.setIfInBounds_toArray, List.set_cons_succ, List.set_cons_zero]
      with_reducible refine sS (by kernel_rfl) ?_
      simp only [Act.put, List.setIfInBounds_toArray, List.set_cons_succ, List.set_cons_zero]
      refine sV (.bool true) (W5) (by kernel_rfl) (by kernel_rfl) ?_
      simp only [Act.put, List.setIfInBounds_toArray, List.set_cons_succ, List.set_cons_zero]
      refine sV (.bool true) (W5) (by kernel_rfl) (by kernel_rfl) ?_
      simp only [Act.put, List.setIfInBounds_toArray, List.set_cons_succ, List.set_cons_zero]
      refine sV (.pointer (some ⟨W, 0, none⟩)) (W5) (by kernel_rfl) (by kernel_rfl) ?_
      simp only [Act.put, List.setIfInBounds_toArray, List.set_cons_succ, List.set_cons_zero]
      refine sL (by kernel_rfl) _ _ (by rfl) _ (by kernel_rfl) HB.out.swap.head _ 41 Try.underlying39 rfl (by kernel_rfl) tl ?_
      simp only [Act.put, List.setIfInBounds_toArray, List.set_cons_succ, List.set_cons_zero]
      refine sC (by kernel_rfl) (by kernel_rfl) (put_fit HB.out HO.out HL.out) ?_
      rintro w7 ⟨v7, hb7⟩
      simp only [Act.put, List.setIfInBounds_toArray, List.set_cons_succ, List.set_cons_zero]
      refine sV (.bool true) (w7) (by kernel_rfl) (by kernel_rfl) ?_
      simp only [Act.put, List.setIfInBounds_toArray, List.set_cons_succ, List.set_cons_zero]
      refine sV (.bool true) (w7) (by kernel_rfl) (by kernel_rfl) ?_
      simp only [Act.put, List.setIfInBounds_toArray, List.set_cons_succ, List.set_cons_zero]
      refine sV (.bool true) (w7) (by kernel_rfl) (by kernel_rfl) ?_
      simp only [Act.put, List.setIfInBounds_toArray, List.set_cons_succ, List.set_cons_zero]
      have HB7 := WirS.hide hb7
      clear hb7 HB HO c5 tl
      go_wp2_with fail
      go_ret
      exact .inl ⟨rfl, p, v7, HF.out.1, HF.out.2.1, fin_bag HB7.out⟩
  · have hz : restN bs p fe = 0 := by unfold restN; rw [if_neg hfe]
    obtain rfl : fe = E := by rw [← hE]; unfold endE; rw [hz]; simp
    rw [hz] at hRest
    have hq : (fe == 0) = false := by simpa using hfe
    have HFE := WirS.hide hfe
    clear hE hz hfe HC
    by_cases h4 : fe = 4
    · subst h4
      go_wp2_with ((go_at_call 33; refine (hRest.out).mono ?_; rintro e w6 ⟨rfl, hb⟩; have HB6 := WirS.hide hb; clear hb))
      go_ret
      exact .inr ⟨rfl, p, 4, fa, HFE.out, bad_bag HB6.out⟩
    · have hq4 : (fe == 4) = false := by simpa using h4
      clear h4
      go_wp2_with fail
      go_ret
      exact .inr ⟨rfl, p, fe, fa, HFE.out, bad_bag HB.out⟩
end WirAB
end Go.Proofs.Ythcemghamdmjmaa

namespace Go.Proofs.Ythcemghamdmjmaa
namespace KitB
open Go.RowKit
open BlkM WirM WirS

theorem Own.set {w : World} {T : TypeId} {g n cap : Nat} {zs : List Int} (h : Own w T (.slice (some ⟨g, 0, none⟩) n cap) zs) (k : Nat) (hk : k < n) (x : Int) : Own (w.setCell ⟨g, k, none⟩ (.int .u8 x)) T (.slice (some ⟨g, 0, none⟩) n cap) (zs.set k x) := by
  obtain ⟨hl, ⟨h0, _⟩ | ⟨g', cap', cur, e, hb, hg, h1, h2, h3, h4⟩⟩ := h
  · cases h0
  · obtain ⟨rfl, rfl, rfl⟩ : g = g' ∧ n = zs.length ∧ cap = cap' := by cases e; exact ⟨rfl, rfl, rfl⟩
    refine ⟨by rw [b8_len]; omega, .inr ⟨g, cap, cur.setIfInBounds k (.int .u8 x), by rw [List.length_set], hb, ?_, by rw [List.length_set]; exact h1, h2, by rw [Array.size_setIfInBounds]; exact h3, ?_⟩⟩
    · rw [heap_setCell_same w g k _ T _ hg]
    · rw [List.length_set, ← b8_set, ← h4]
      simp [List.take_set]
theorem Own.cell {w : World} {T : TypeId} {g n cap : Nat} {zs : List Int} (h : Own w T (.slice (some ⟨g, 0, none⟩) n cap) zs) (k : Nat) (hk : k < n) : w.cell? ⟨g, k, none⟩ = some (.int .u8 (zs.getD k 0)) ∧ w.frozen? ⟨g, k, none⟩ = false := by
  obtain ⟨hl, ⟨h0, _⟩ | ⟨g', cap', cur, e, hb, hg, h1, h2, h3, h4⟩⟩ := h
  · cases h0
  · obtain ⟨rfl, rfl, rfl⟩ : g = g' ∧ n = zs.length ∧ cap = cap' := by cases e; exact ⟨rfl, rfl, rfl⟩
    have h5 := b8_get zs k hk
    rw [← h4, List.getElem?_take, if_pos (by omega)] at h5
    refine ⟨?_, by simp [World.frozen?, hg]⟩
    simp only [World.cell?, hg]
    simpa using h5
def MidO (w : World) (T : TypeId) (v : Value) (n : Nat) (i : Value) (U : World) : Prop := ∃ (k : Nat) (ys : List Int), k ≤ n ∧ i = .int .i64 (k : Int) ∧ ys.length = n ∧ Own U T v ys ∧ Fr (fun k => v.ownBlock = some k) w U
set_option maxHeartbeats 1000000 in
/-- Bytes are written over: only they. -/
theorem over_any (w : World) (a : Option Addr) (n c : Nat) (zs : List Int) (h : Own w 5 (.slice a n c) zs) (hn : n ≤ 1099511627776) :
    Calls Try.prog 26 #[.slice a n c] w fun e w' => e = .returned (.tuple #[]) ∧ (∃ ys, ys.length = n ∧ Own w' 5 (.slice a n c) ys) ∧ Fr (fun k => (Value.slice a n c).ownBlock = some k) w w' := by
  have hl : zs.length = n := by obtain ⟨_, _, e, _⟩ := h.bin; cases e; rfl
  by_cases h0 : n = 0
  · subst h0
    have HH := WirS.hide h
    have HL := WirS.hide hl
    clear h hl
    go_enter Try.func26, Try.ntmps26
    go_wp2_with fail
    refine wp_loop_rounds 1 ?_
    rw [rounds_succ]
    go_wp2_with fail
    first | go_end0 | refine bodyPost_ret (results_none rfl _ _ _) rfl ?_
    exact ⟨rfl, ⟨zs, HL.out, HH.out⟩, Fr.refl _ _⟩
  · obtain ⟨g, rfl⟩ : ∃ g, a = some ⟨g, 0, none⟩ := by
      obtain ⟨_, ⟨e, _⟩ | ⟨g, _, _, e, _⟩⟩ := h
      · cases e; exact absurd rfl h0
      · cases e; exact ⟨g, rfl⟩
    have HH := WirS.hide h
    have HL := WirS.hide hl
    clear h hl
    go_enter Try.func26, Try.ntmps26
    go_wp2_with fail
    go_loopw [2] (fun i wr => MidO w 5 (.slice (some ⟨g, 0, none⟩) n c) n i wr) (fun i _ => n - (intOf i).toNat)
    case atStart => exact ⟨0, zs, Nat.zero_le _, rfl, HL.out, HH.out, Fr.refl _ _⟩
    case round =>
      obtain ⟨k, ys, hk, rfl, hy, ho, hf⟩ := hrel
      by_cases hlt : k < n
      · obtain ⟨ck, fk⟩ := Own.cell ho k hlt
        have HO := WirS.hide ho
        have HF := WirS.hide hf
        have HY := WirS.hide hy
        generalize ys.getD k 0 = x at ck
        clear ho hf hy
        go_wp2_with fail
        go_roundw
        case rel => exact ⟨k + 1, ys.set k (bits .xor .u8 x 165), by omega, by go_num, by rw [List.length_set]; exact HY.out, Own.set HO.out k hlt _, HF.out.setCell g k _ (fun _ => rfl)⟩
        case measure => simp [intOf]; omega
      · have HO := WirS.hide ho
        have HF := WirS.hide hf
        have HY := WirS.hide hy
        clear ho hf hy
        go_wp2_with fail
        first | go_end0 | refine bodyPost_ret (results_none rfl _ _ _) rfl ?_
        exact ⟨rfl, ⟨ys, HY.out, HO.out⟩, HF.out⟩
/-- A place among n. -/
def pick (i n : Int) : Int := if i.tmod n < 0 then i.tmod n + n else i.tmod n
theorem pick_range (i n : Int) (hn : 0 < n) : 0 ≤ pick i n ∧ pick i n < n := by
  have h1 := Int.tmod_lt_of_pos i hn
  have h2 : -n < i.tmod n := Int.neg_lt_of_neg_lt (by have := Int.tmod_lt_of_pos (-i) hn; rw [Int.neg_tmod] at this; exact this)
  unfold pick
  split <;> omega
theorem pick_any (w : World) (i n : Int) (hn : 0 < n) (hn2 : n ≤ 1099511627776) :
    Calls Try.prog 48 #[.int .i64 i, .int .i64 n] w fun e w' => e = .returned (.int .i64 (pick i n)) ∧ w = w' := by
  have hr := pick_range i n hn
  have hm : -n < i.tmod n ∧ i.tmod n < n := by
    have h1 := Int.tmod_lt_of_pos i hn
    have h2 : -n < i.tmod n := Int.neg_lt_of_neg_lt (by have := Int.tmod_lt_of_pos (-i) hn; rw [Int.neg_tmod] at this; exact this)
    exact ⟨h2, h1⟩
  have hn3 : ¬ n ≤ 0 := by omega
  have hn4 : (n == 0) = false := by simp; omega
  have hn5 : (n == -1) = false := by simp; omega
  unfold pick at hr ⊢
  have HR := WirS.hide hr
  clear hr
  generalize hq : i.tmod n = q at hm ⊢
  by_cases hneg : q < 0
  · rw [if_pos hneg]
    go_enter Try.func48, Try.ntmps48
    go_wp2
    go_ret
    exact ⟨rfl, rfl⟩
  · rw [if_neg hneg]
    go_enter Try.func48, Try.ntmps48
    go_wp2
    go_ret
    exact ⟨rfl, rfl⟩
end KitB
end Go.Proofs.Ythcemghamdmjmaa

namespace Go.Proofs.Ythcemghamdmjmaa
namespace KitC
open Go.RowKit
open BlkM WirM WirS KitB

theorem ownNew (w : World) : Own (w.alloc (.cells #[] 5)) 5 (.slice (some ⟨w.heap.size, 0, none⟩) 0 0) [] := World.ownsRow_made w #[] 0 (Nat.zero_le _) (Nat.zero_le _) (by simp)
def NewB (w : World) (x : Value) : Prop := ∀ k, x.ownBlock = some k → w.heap.size ≤ k
theorem len_of {w : World} {T : TypeId} {v : Value} {zs : List Int} (h : Own w T v zs) : ∃ a cap, v = .slice a zs.length cap := by
  obtain ⟨a, cap, rfl, _⟩ := h.bin
  exact ⟨a, cap, rfl⟩
theorem copy_any (w : World) (a : Option Addr) (n c : Nat) (zs : List Int) (h : BIn w (.slice a n c) zs) (hn : n ≤ 1099511627776) :
    Calls Try.prog 82 #[.slice a n c] w fun e w' => ∃ va vn vc, e = .returned (.slice va vn vc) ∧ Own w' 5 (.slice va vn vc) zs ∧ NewB w (.slice va vn vc) ∧ Below w.heap.size w w' := by
  have hnl : n = zs.length := by obtain ⟨_, _, e, _⟩ := h; cases e; rfl
  obtain ⟨i0, hi, hz0, hz1, hz2⟩ := info_parts (show (Try.prog.info? 5).map (fun i => (i.zero, i.size, i.bytes)) = some (some (.int .u8 0), 1, 1) by kernel_rfl)
  have hb : Below w.heap.size w (w.alloc (.cells #[] 5)) := Below.alloc (Below.refl _ _) (Nat.le_refl _) _
  obtain ⟨v1, u1, r1, o1, f1, n1⟩ := app_any (P := Try.prog) (w.alloc (.cells #[] 5)) 32 32 32 5 i0 _ Try.underlying32 hi hz0 hz1 hz2 rfl (.slice (some ⟨w.heap.size, 0, none⟩) 0 0) (.slice a n c) [] zs (ownNew w) ((h.below hb).src Try.underlying32) (by simp; omega)
  have HB := WirS.hide (hb.trans (f1.below (B := w.heap.size) (by simp) (fun k hk hx => by simp [Value.ownBlock] at hx; omega)))
  have HN := WirS.hide (show NewB w v1 from fun k hk => by
    rcases n1 k hk with hx | hx
    · simp [Value.ownBlock] at hx
      omega
    · simp at hx
      omega)
  rw [List.nil_append] at o1
  have HO := WirS.hide o1
  clear hb f1 n1 o1 h hi hz0 hz1 hz2 hnl
  go_enter Try.func82, Try.ntmps82
  go_upto_region 1 with fail
  refine wp_region_lit ?_
  refine sV (.slice (some ⟨w.heap.size, 0, none⟩) 0 0) (w.alloc (.cells #[] 5)) (by kernel_rfl) (by kernel_rfl) ?_
  simp only [Act.put, List.setIfInBounds_toArray, List.set_cons_succ, List.set_cons_zero]
  refine sV (.slice a n c) (w.alloc (.cells #[] 5)) (by kernel_rfl) (by kernel_rfl) ?_
  simp only [Act.put, List.setIfInBounds_toArray, List.set_cons_succ, List.set_cons_zero]
  refine sA (by kernel_rfl) 32 32 _ _ (by rfl) (.slice (some ⟨w.heap.size, 0, none⟩) 0 0) (.slice a n c) (by kernel_rfl) (by kernel_rfl) (v1) (u1) r1 ?_
  simp only [Act.put, List.setIfInBounds_toArray, List.set_cons_succ, List.set_cons_zero]
  clear r1
  obtain ⟨a2, c2, e2⟩ := len_of HO.out
  obtain ⟨n2, hn2⟩ : ∃ n2, n2 = zs.length := ⟨_, rfl⟩
  rw [← hn2] at e2
  subst e2
  clear hn2
  go_wp2_with fail
  go_ret
  exact ⟨a2, n2, c2, rfl, HO.out, HN.out, HB.out⟩
end KitC
end Go.Proofs.Ythcemghamdmjmaa

