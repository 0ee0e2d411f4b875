/-
  Which of two hashes is less, and whether two are one, by package blake.
-/
import Derived.Test.YtfmegeibnjmfpaaDoorBlkO
import Derived.ChangeKeysEq
namespace Go.Proofs.YtfmegeibnjmfpaaDoor
namespace BlkP
open Go.RowKit Go.Lib
open BlkM BlkA BlkI BlkJ BlkK BlkL BlkO

theorem part8 (l : List Int) (i : Nat) (h : i < l.length) (W : World) : (part 5 (b8 l).toArray (i * 1)).run Tryd.prog W = .ok (.int .u8 (l.getD i 0)) W := by
  have hg := b8_get l i h
  have hb : i < (b8 l).length := by rw [b8_len]; exact h
  rw [List.getElem?_eq_getElem hb] at hg
  have h1 : (b8 l)[i] = Value.int .u8 (l.getD i 0) := Option.some.inj hg
  have ha : (isAgg 5).run Tryd.prog W = .ok false W := by kernel_rfl
  simp [part, Sem.run_bind, ha, hb, h1]
theorem eqItems8 (l m : List Int) (hl : l.length = 32) (hm : m.length = 32) (d : Nat) (W : World) : ∀ is : List Nat, (∀ i ∈ is, i < 32) →
    (Op.eqItems (d + 1) 5 1 (b8 l).toArray (b8 m).toArray is).run Tryd.prog W = .ok (decide (∀ i ∈ is, l.getD i 0 = m.getD i 0)) W
  | [], _ => by simp [Op.eqItems]
  | i :: is, h => by
    have h1 := part8 l i (by rw [hl]; exact h i (by simp)) W
    have h2 := part8 m i (by rw [hm]; exact h i (by simp)) W
    have h3 := eqItems8 l m hl hm d W is (fun j hj => h j (by simp [hj]))
    have h4 : (Op.equalIn (d + 1) 5 (.int .u8 (l.getD i 0)) (.int .u8 (m.getD i 0))).run Tryd.prog W = .ok (l.getD i 0 == m.getD i 0) W := by
      simp [Op.equalIn, run_underlying Tryd.underlying5]
    simp only [Op.eqItems, Sem.run_bind, h1, h2, h4, Result.andThen_ok]
    by_cases e : l.getD i 0 = m.getD i 0
    · have hiff : (∀ j ∈ i :: is, l.getD j 0 = m.getD j 0) ↔ (∀ j ∈ is, l.getD j 0 = m.getD j 0) := ⟨fun h j hj => h j (List.mem_cons_of_mem _ hj), fun h j hj => (List.mem_cons.1 hj).elim (fun x => by rw [x]; exact e) (h j)⟩
      rw [show (l.getD i 0 == m.getD i 0) = true from beq_iff_eq.2 e]
      simp only [Bool.not_true, Bool.false_eq_true, if_false, h3, hiff]
    · have e2 : (l.getD i 0 == m.getD i 0) = false := by simpa using e
      have hf : ¬ (∀ j ∈ i :: is, l.getD j 0 = m.getD j 0) := fun h => e (h i (List.mem_cons_self))
      rw [e2, decide_eq_false hf]
      simp
theorem ext32 {l m : List Int} (hl : l.length = 32) (hm : m.length = 32) : (∀ i ∈ List.range 32, l.getD i 0 = m.getD i 0) ↔ l = m := by
  constructor
  · intro h
    apply List.ext_getElem (by omega)
    intro i h1 h2
    have := h i (List.mem_range.2 (by omega))
    rw [List.getD_eq_getElem?_getD, List.getElem?_eq_getElem h1, List.getD_eq_getElem?_getD, List.getElem?_eq_getElem h2] at this
    exact this
  · rintro rfl i _
    rfl
theorem eqH (l m : List Int) (hl : l.length = 32) (hm : m.length = 32) (W : World) : (binOp .eql 26 (.agg (b8 l).toArray) (.agg (b8 m).toArray)).run Tryd.prog W = .ok (.bool (decide (l = m))) W := by
  have hi : (Tryd.prog.info? 5).isSome = true := by kernel_rfl
  obtain ⟨i, hi⟩ := Option.isSome_iff_exists.1 hi
  have hc : Tryd.prog.cellsOf 5 = 1 := by kernel_rfl
  have h : (Op.equalIn (9998 + 1 + 1) 26 (.agg (b8 l).toArray) (.agg (b8 m).toArray)).run Tryd.prog W = .ok (decide (l = m)) W := by
    rw [run_equalIn_array W (9998 + 1) (b8 l).toArray (b8 m).toArray Tryd.underlying26 hi, hc, eqItems8 l m hl hm 9998 W (List.range 32) (fun i hi => List.mem_range.1 hi)]
    simp only [ext32 hl hm]
  simp only [binOp]
  simp [Op.equal, Op.maxDepth, h]
theorem neqH (l m : List Int) (hl : l.length = 32) (hm : m.length = 32) (W : World) : (binOp .neq 26 (.agg (b8 l).toArray) (.agg (b8 m).toArray)).run Tryd.prog W = .ok (.bool (!decide (l = m))) W := by
  have hi : (Tryd.prog.info? 5).isSome = true := by kernel_rfl
  obtain ⟨i, hi⟩ := Option.isSome_iff_exists.1 hi
  have hc : Tryd.prog.cellsOf 5 = 1 := by kernel_rfl
  have h : (Op.equalIn (9998 + 1 + 1) 26 (.agg (b8 l).toArray) (.agg (b8 m).toArray)).run Tryd.prog W = .ok (decide (l = m)) W := by
    rw [run_equalIn_array W (9998 + 1) (b8 l).toArray (b8 m).toArray Tryd.underlying26 hi, hc, eqItems8 l m hl hm 9998 W (List.range 32) (fun i hi => List.mem_range.1 hi)]
    simp only [ext32 hl hm]
  simp only [binOp]
  simp [Op.equal, Op.maxDepth, h]

/-- Which of two is less. -/
def bts (l : List Int) : List UInt8 := l.map fun n => n.toNat.toUInt8
def cmpI (l m : List Int) : Int := compareBytes (bts l) (bts m)
theorem acmp (g h : Nat) (l m : List Int) (hl : l.length = 32) (hm : m.length = 32) (W : World) (a : At W g 26 (b8 l)) (b : At W h 26 (b8 m)) :
    (callFunc 70 #[.slice (some ⟨g, 0, none⟩) 32 32, .slice (some ⟨h, 0, none⟩) 32 32]).run Tryd.prog W = .ok (.value (.int .i64 (cmpI l m))) W := by
  have ld : ∀ (x : Nat) (z : List Int), z.length = 32 → At W x 26 (b8 z) → (Extern.Bytes.bytesOf (.slice (some ⟨x, 0, none⟩) 32 32)).run Tryd.prog W = .ok ⟨(bts z).toArray⟩ W := fun x z hz hx => by
    have := run_loadBytesX (P := Tryd.prog) W z ⟨x, 0, none⟩ .empty (fun j y hj => by
      have hjl : j < z.length := (List.getElem?_eq_some_iff.1 hj).1
      rw [Addr.add_mid, Nat.zero_add, hx.cell, b8_get z j hjl, List.getD_eq_getElem?_getD, hj]
      rfl)
    rw [hz] at this
    simp only [Extern.Bytes.bytesOf]
    rw [this]
    congr 1
    apply ByteArray.ext
    simp [Lib.bytesOf, bts]
  rw [run_callFunc_extern Tryd.func70 (by kernel_rfl) (by kernel_rfl) (by kernel_rfl) (e := Extern.BytealgCompare.compare) (by kernel_rfl)]
  have h2 : (Extern.BytealgCompare.compare #[.slice (some ⟨g, 0, none⟩) 32 32, .slice (some ⟨h, 0, none⟩) 32 32]).run Tryd.prog W = .ok (.int .i64 (cmpI l m)) W := by
    change Sem.run Tryd.prog (do pure (goInt (Extern.BytealgCompare.cmp (← Extern.Bytes.bytesOf (.slice (some ⟨g, 0, none⟩) 32 32)) (← Extern.Bytes.bytesOf (.slice (some ⟨h, 0, none⟩) 32 32))))) W = _
    simp only [Sem.run_bind, Sem.run_pure, Result.andThen, ld g l hl a, ld h m hm b]
    rw [cmp_eq]
    rfl
  rw [h2]
  rfl
set_option maxHeartbeats 400000 in
theorem bcmp_any (g h : Nat) (l m : List Int) (hl : l.length = 32) (hm : m.length = 32) (w : World) (a : At w g 26 (b8 l)) (b : At w h 26 (b8 m)) :
    Calls Tryd.prog 48 #[.slice (some ⟨g, 0, none⟩) 32 32, .slice (some ⟨h, 0, none⟩) 32 32] w fun e w' => e = .returned (.int .i64 (cmpI l m)) ∧ w = w' := by
  have H := acmp g h l m hl hm w a b
  clear a b
  generalize cmpI l m = r at *
  go_enter Tryd.func48, Tryd.ntmps48
  go_wp2
  go_ret
  exact ⟨rfl, rfl⟩
set_option maxHeartbeats 1000000 in
set_option maxRecDepth 10000 in
theorem compare_any (w : World) (l m : List Int) (hl : l.length = 32) (hm : m.length = 32) :
    Calls Tryd.prog 20 #[.agg (b8 l).toArray, .agg (b8 m).toArray] w fun e w' => e = .returned (.int .i64 (cmpI l m)) ∧ Below w.heap.size w w' := by
  obtain ⟨W0, eW0⟩ : ∃ X, X = (w.alloc (.cells (b8 l).toArray 26)).alloc (.cells (b8 m).toArray 26) := ⟨_, rfl⟩
  have hA : At W0 w.heap.size 26 (b8 l) := by rw [eW0]; exact At.alloc (At.new w _ _) _
  have hB : At W0 (w.heap.size + 1) 26 (b8 m) := by
    rw [eW0]
    have := At.new (w.alloc (.cells (b8 l).toArray 26)) 26 (b8 m)
    rw [World.size_alloc] at this
    exact this
  have hb0 : Below w.heap.size w W0 := by rw [eW0]; exact Below.alloc (Below.alloc (Below.refl _ _) (Nat.le_refl _) _) (by simp) _
  have HC := hide (bcmp_any w.heap.size (w.heap.size + 1) l m hl hm W0.drew hA hB)
  have HB0 := hide hb0.drew
  have E0 := hide eW0
  have hsl : ∀ (g : Nat) (Y : World), (Instr.sliceAt 26 (.pointer (some ⟨g, 0, none⟩)) none none none).run Tryd.prog Y = .ok (.slice (some ⟨g, 0, none⟩) 32 32) Y := by
    intro g Y
    kernel_rfl
  clear eW0 hA hB hb0
  go_enter Tryd.func20, Tryd.ntmps20
  go_upto_region 1 with (fail)
  rw [← E0.out]
  go_still_tail 2, (by kernel_rfl)
  go_wp2_with ((go_at_call 48; refine (show Calls _ _ _ _ _ from HC.out).mono ?_; rintro e w1 ⟨rfl, rfl⟩))
  go_ret
  exact ⟨rfl, HB0.out⟩
end BlkP
end Go.Proofs.YtfmegeibnjmfpaaDoor
