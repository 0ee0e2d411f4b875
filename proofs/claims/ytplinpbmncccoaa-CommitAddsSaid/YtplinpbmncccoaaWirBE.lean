/-
  Two hashes, two keys compared.
-/
import Derived.Test.YtplinpbmncccoaaWirAA
import Derived.ChangeKeysEq
namespace Go.Proofs.Ytplinpbmncccoaa
namespace WirBE
open Go.RowKit Go.Lib
open BlkM WirM WirS WirP

theorem part8 (l : List Int) (i : Nat) (h : i < l.length) (W : World) : (part 5 (b8 l).toArray (i * 1)).run Try.prog W = .ok (.int .u8 (l.getD i 0)) W := by
  have hg := b8_get l i h
  have hb : i < (b8 l).length := by rw [b8_len]; exact h
  rw [List.getElem?_eq_getElem hb] at hg
  have h1 : (b8 l)[i] = Value.int .u8 (l.getD i 0) := Option.some.inj hg
  have ha : (isAgg 5).run Try.prog W = .ok false W := by kernel_rfl
  simp [part, Sem.run_bind, ha, hb, h1]
theorem eqItems8 (l m : List Int) (hl : l.length = 32) (hm : m.length = 32) (d : Nat) (W : World) : ∀ is : List Nat, (∀ i ∈ is, i < 32) →
    (Op.eqItems (d + 1) 5 1 (b8 l).toArray (b8 m).toArray is).run Try.prog W = .ok (decide (∀ i ∈ is, l.getD i 0 = m.getD i 0)) W
  | [], _ => by simp [Op.eqItems]
  | i :: is, h => by
    have h1 := part8 l i (by rw [hl]; exact h i (by simp)) W
    have h2 := part8 m i (by rw [hm]; exact h i (by simp)) W
    have h3 := eqItems8 l m hl hm d W is (fun j hj => h j (by simp [hj]))
    have h4 : (Op.equalIn (d + 1) 5 (.int .u8 (l.getD i 0)) (.int .u8 (m.getD i 0))).run Try.prog W = .ok (l.getD i 0 == m.getD i 0) W := by
      simp [Op.equalIn, run_underlying Try.underlying5]
    simp only [Op.eqItems, Sem.run_bind, h1, h2, h4, Result.andThen_ok]
    by_cases e : l.getD i 0 = m.getD i 0
    · have hiff : (∀ j ∈ i :: is, l.getD j 0 = m.getD j 0) ↔ (∀ j ∈ is, l.getD j 0 = m.getD j 0) := ⟨fun h j hj => h j (List.mem_cons_of_mem _ hj), fun h j hj => (List.mem_cons.1 hj).elim (fun x => by rw [x]; exact e) (h j)⟩
      rw [show (l.getD i 0 == m.getD i 0) = true from beq_iff_eq.2 e]
      simp only [Bool.not_true, Bool.false_eq_true, if_false, h3, hiff]
    · have e2 : (l.getD i 0 == m.getD i 0) = false := by simpa using e
      have hf : ¬ (∀ j ∈ i :: is, l.getD j 0 = m.getD j 0) := fun h => e (h i (List.mem_cons_self))
      rw [e2, decide_eq_false hf]
      simp
theorem ext32 {l m : List Int} (hl : l.length = 32) (hm : m.length = 32) : (∀ i ∈ List.range 32, l.getD i 0 = m.getD i 0) ↔ l = m := by
  constructor
  · intro h
    apply List.ext_getElem (by omega)
    intro i h1 h2
    have := h i (List.mem_range.2 (by omega))
    rw [List.getD_eq_getElem?_getD, List.getElem?_eq_getElem h1, List.getD_eq_getElem?_getD, List.getElem?_eq_getElem h2] at this
    exact this
  · rintro rfl i _
    rfl
theorem eqHg (l m : List Int) (hl : l.length = 32) (hm : m.length = 32) (W : World) : (binOp .eql 34 (.agg (b8 l).toArray) (.agg (b8 m).toArray)).run Try.prog W = .ok (.bool (decide (l = m))) W := by
  have hi : (Try.prog.info? 5).isSome = true := by kernel_rfl
  obtain ⟨i, hi⟩ := Option.isSome_iff_exists.1 hi
  have hc : Try.prog.cellsOf 5 = 1 := by kernel_rfl
  have h : (Op.equalIn (9998 + 1 + 1) 34 (.agg (b8 l).toArray) (.agg (b8 m).toArray)).run Try.prog W = .ok (decide (l = m)) W := by
    rw [run_equalIn_array W (9998 + 1) (b8 l).toArray (b8 m).toArray Try.underlying34 hi, hc, eqItems8 l m hl hm 9998 W (List.range 32) (fun i hi => List.mem_range.1 hi)]
    simp only [ext32 hl hm]
  simp only [binOp]
  simp [Op.equal, Op.maxDepth, h]
theorem eqItems4 (l m : List Int) (hl : l.length = 4) (hm : m.length = 4) (d : Nat) (W : World) : ∀ is : List Nat, (∀ i ∈ is, i < 4) →
    (Op.eqItems (d + 1) 5 1 (b8 l).toArray (b8 m).toArray is).run Try.prog W = .ok (decide (∀ i ∈ is, l.getD i 0 = m.getD i 0)) W
  | [], _ => by simp [Op.eqItems]
  | i :: is, h => by
    have h1 := part8 l i (by rw [hl]; exact h i (by simp)) W
    have h2 := part8 m i (by rw [hm]; exact h i (by simp)) W
    have h3 := eqItems4 l m hl hm d W is (fun j hj => h j (by simp [hj]))
    have h4 : (Op.equalIn (d + 1) 5 (.int .u8 (l.getD i 0)) (.int .u8 (m.getD i 0))).run Try.prog W = .ok (l.getD i 0 == m.getD i 0) W := by
      simp [Op.equalIn, run_underlying Try.underlying5]
    simp only [Op.eqItems, Sem.run_bind, h1, h2, h4, Result.andThen_ok]
    by_cases e : l.getD i 0 = m.getD i 0
    · have hiff : (∀ j ∈ i :: is, l.getD j 0 = m.getD j 0) ↔ (∀ j ∈ is, l.getD j 0 = m.getD j 0) := ⟨fun h j hj => h j (List.mem_cons_of_mem _ hj), fun h j hj => (List.mem_cons.1 hj).elim (fun x => by rw [x]; exact e) (h j)⟩
      rw [show (l.getD i 0 == m.getD i 0) = true from beq_iff_eq.2 e]
      simp only [Bool.not_true, Bool.false_eq_true, if_false, h3, hiff]
    · have e2 : (l.getD i 0 == m.getD i 0) = false := by simpa using e
      have hf : ¬ (∀ j ∈ i :: is, l.getD j 0 = m.getD j 0) := fun h => e (h i (List.mem_cons_self))
      rw [e2, decide_eq_false hf]
      simp
theorem ext4 {l m : List Int} (hl : l.length = 4) (hm : m.length = 4) : (∀ i ∈ List.range 4, l.getD i 0 = m.getD i 0) ↔ l = m := by
  constructor
  · intro h
    apply List.ext_getElem (by omega)
    intro i h1 h2
    have := h i (List.mem_range.2 (by omega))
    rw [List.getD_eq_getElem?_getD, List.getElem?_eq_getElem h1, List.getD_eq_getElem?_getD, List.getElem?_eq_getElem h2] at this
    exact this
  · rintro rfl i _
    rfl
theorem eqKg (l m : List Int) (hl : l.length = 4) (hm : m.length = 4) (W : World) : (binOp .eql 36 (.agg (b8 l).toArray) (.agg (b8 m).toArray)).run Try.prog W = .ok (.bool (decide (l = m))) W := by
  have hi : (Try.prog.info? 5).isSome = true := by kernel_rfl
  obtain ⟨i, hi⟩ := Option.isSome_iff_exists.1 hi
  have hc : Try.prog.cellsOf 5 = 1 := by kernel_rfl
  have h : (Op.equalIn (9998 + 1 + 1) 36 (.agg (b8 l).toArray) (.agg (b8 m).toArray)).run Try.prog W = .ok (decide (l = m)) W := by
    rw [run_equalIn_array W (9998 + 1) (b8 l).toArray (b8 m).toArray Try.underlying36 hi, hc, eqItems4 l m hl hm 9998 W (List.range 4) (fun i hi => List.mem_range.1 hi)]
    simp only [ext4 hl hm]
  simp only [binOp]
  simp [Op.equal, Op.maxDepth, h]
theorem eqH (h : List Int) (lh : h.length = 32) (x : List Int) (lx : x.length = 32) (W : World) : (binOp .eql 34 (aggB x) (.agg (b8 h).toArray)).run Try.prog W = .ok (.bool (decide (x = h))) W := eqHg x h lx lh W
theorem eqK (k : List Int) (lk : k.length = 4) (x : List Int) (lx : x.length = 4) (W : World) : (binOp .eql 36 (aggB x) (.agg (b8 k).toArray)).run Try.prog W = .ok (.bool (decide (x = k))) W := eqKg x k lx lk W
end WirBE
end Go.Proofs.Ytplinpbmncccoaa
