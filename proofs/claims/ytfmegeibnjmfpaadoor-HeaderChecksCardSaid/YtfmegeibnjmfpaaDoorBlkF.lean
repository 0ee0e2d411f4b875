/-
  The ten rounds, of package blake: the table, read digit by digit.
-/
import Derived.Test.YtfmegeibnjmfpaaDoorBlkD
import Derived.Test.YtfmegeibnjmfpaaDoorBlkE
import Derived.Laws.RangeAny
namespace Go.Proofs.YtfmegeibnjmfpaaDoor
namespace BlkF
open Go.RowKit
open BlkM BlkA BlkD BlkE

/-! ### The table as text -/
def rowsS : ByteArray := ⟨#[48, 49, 50, 51, 52, 53, 54, 55, 56, 57, 97, 98, 99, 100, 101, 102, 101, 97, 52, 56, 57, 102, 100, 54, 49, 99, 48, 50, 98, 55, 53, 51, 98, 56, 99, 48, 53, 50, 102, 100, 97, 101, 51, 54, 55, 49, 57, 52, 55, 57, 51, 49, 100, 99, 98, 101, 50, 54, 53, 97, 52, 48, 102, 56, 57, 48, 53, 55, 50, 52, 97, 102, 101, 49, 98, 99, 54, 56, 51, 100, 50, 99, 54, 97, 48, 98, 56, 51, 52, 100, 55, 53, 102, 101, 49, 57, 99, 53, 49, 102, 101, 100, 52, 97, 48, 55, 54, 51, 57, 50, 56, 98, 100, 98, 55, 101, 99, 49, 51, 57, 53, 48, 102, 52, 56, 54, 50, 97, 54, 102, 101, 57, 98, 51, 48, 56, 99, 50, 100, 55, 49, 52, 97, 53, 97, 50, 56, 52, 55, 54, 49, 53, 102, 98, 57, 101, 51, 99, 100, 48]⟩
def tabS : List Nat := [0, 1, 2, 3, 4, 5, 6, 7, 8, 9, 10, 11, 12, 13, 14, 15, 14, 10, 4, 8, 9, 15, 13, 6, 1, 12, 0, 2, 11, 7, 5, 3, 11, 8, 12, 0, 5, 2, 15, 13, 10, 14, 3, 6, 7, 1, 9, 4, 7, 9, 3, 1, 13, 12, 11, 14, 2, 6, 5, 10, 4, 0, 15, 8, 9, 0, 5, 7, 2, 4, 10, 15, 14, 1, 11, 12, 6, 8, 3, 13, 2, 12, 6, 10, 0, 11, 8, 3, 4, 13, 7, 5, 15, 14, 1, 9, 12, 5, 1, 15, 14, 13, 4, 10, 0, 7, 6, 3, 9, 2, 8, 11, 13, 11, 7, 14, 12, 1, 3, 9, 5, 0, 15, 4, 8, 6, 2, 10, 6, 15, 14, 9, 11, 3, 0, 8, 12, 2, 13, 7, 1, 4, 10, 5, 10, 2, 8, 4, 7, 6, 1, 5, 15, 11, 9, 14, 3, 12, 13, 0]
def tab (k : Nat) : Nat := tabS.getD k 0
theorem rowsS_size : rowsS.size = 160 := by kernel_rfl
set_option maxRecDepth 100000 in
theorem tab_lt : ∀ k, k < 160 → tab k < 16 := by decide +kernel
set_option maxRecDepth 100000 in
theorem rowsS_get : ∀ k (h : k < rowsS.size), (rowsS[k]'h).toNat < 128 ∧ valI ((rowsS[k]'h).toNat : Int) = (tab k : Int) := by
  have : ∀ k, k < 160 → ∃ h : k < rowsS.size, (rowsS[k]'h).toNat < 128 ∧ valI ((rowsS[k]'h).toNat : Int) = (tab k : Int) := by decide +kernel
  intro k h
  obtain ⟨_, h2⟩ := this k h
  exact h2
set_option maxRecDepth 100000 in
theorem table_get : ∀ r, r < 10 → (table.getD r []).length = 16 ∧ ∀ i, i < 16 → (table.getD r []).getD i 0 = tab (16 * r + i) := by decide +kernel
/-- The words of the row, when some digits have come. -/
def rowAt (m : List Int) : Nat → List Int
  | 0 => List.replicate 16 0
  | k + 1 => (rowAt m k).set (k % 16) (m.getD (tab k) 0)
theorem rowAt_len (m : List Int) : ∀ k, (rowAt m k).length = 16
  | 0 => rfl
  | k + 1 => by rw [rowAt, List.length_set, rowAt_len m k]
theorem rowAt_get (m : List Int) (r : Nat) : ∀ j, j ≤ 16 → ∀ i, i < j → (rowAt m (16 * r + j)).getD i 0 = m.getD (tab (16 * r + i)) 0
  | 0, _, i, hi => by omega
  | j + 1, hj, i, hi => by
    rw [show 16 * r + (j + 1) = (16 * r + j) + 1 by omega, rowAt, show (16 * r + j) % 16 = j by omega]
    have hl : j < (rowAt m (16 * r + j)).length := by rw [rowAt_len]; omega
    by_cases e : j = i
    · subst e
      simp [List.getD, hl]
    · have := rowAt_get m r j (by omega) i (by omega)
      rw [← this]
      simp [List.getD, e]
theorem row_done (m : List Int) (r : Nat) (h : r < 10) (z : Nat) (hz : z = 16 * r + 16) : rowAt m z = sched m r := by
  obtain ⟨h1, h2⟩ := table_get r h
  subst hz
  apply List.ext_getElem
  · unfold sched; rw [rowAt_len, List.length_map, h1]
  · intro i a b
    have h3 := rowAt_get m r 16 (Nat.le_refl _) i (by rw [rowAt_len] at a; exact a)
    rw [List.getD_eq_getElem?_getD, List.getElem?_eq_getElem a] at h3
    have h4 := h2 i (by rw [rowAt_len] at a; exact a)
    have h5 : i < (table.getD r []).length := by rw [h1]; rw [rowAt_len] at a; exact a
    rw [List.getD_eq_getElem?_getD, List.getElem?_eq_getElem h5] at h4
    have h6 : (sched m r)[i] = m.getD ((table.getD r [])[i]) 0 := by simp only [sched, List.getElem_map]
    rw [h6]
    simp only [Option.getD_some] at h3 h4
    rw [h4, h3]

/-! ### A range over a text, in whatever world -/
def setIter (W : World) (K : Nat) (s : ByteArray) (pos : Nat) : World := { W with heap := W.heap.setIfInBounds K (.stringIter s pos) }
theorem setIter_size (W : World) (K : Nat) (s : ByteArray) (pos : Nat) : (setIter W K s pos).heap.size = W.heap.size := by simp [setIter]
theorem setIter_same (W : World) (K : Nat) (s : ByteArray) (pos : Nat) (o : Obj) (h : W.heap[K]? = some o) : (setIter W K s pos).heap[K]? = some (.stringIter s pos) := by
  have hl := (Array.getElem?_eq_some_iff.1 h).1
  simp [setIter, hl]
theorem setIter_other (W : World) (K k : Nat) (s : ByteArray) (pos : Nat) (h : k ≠ K) : (setIter W K s pos).heap[k]? = W.heap[k]? := by
  simp [setIter, Ne.symm h]
theorem below_setIter {B : Nat} {a w : World} (h : Below B a w) {K : Nat} (hK : B ≤ K) (s : ByteArray) (pos : Nat) : Below B a (setIter w K s pos) :=
  h.trans ⟨rfl, rfl, rfl, by rw [setIter_size]; exact Nat.le_refl _, fun k hk => setIter_other w K k s pos (by omega)⟩
theorem next_at {P : Program} (W : World) (K : Nat) (s : ByteArray) (pos : Nat) (ty : TypeId) (hk : W.heap[K]? = some (.stringIter s pos)) (h : pos < s.size) (ha : (s[pos]'h).toNat < 128) :
    (Instr.next (.pointer (some ⟨K, 0, none⟩)) true ty).run P W = .ok (.tuple #[.bool true, .int .i64 pos, .int .i32 (s[pos]'h).toNat]) (setIter W K s (pos + 1)) := by
  simp only [Instr.next, getObj, setObj, Sem.run_bind, Sem.run, hk, Result.andThen, h, if_true, decode_ascii s pos h ha]
  simp [goInt, setIter]
theorem next_any_at {P : Program} (W : World) (K : Nat) (s : ByteArray) (pos : Nat) (ty : TypeId) (hk : W.heap[K]? = some (.stringIter s pos)) (h : pos < s.size) :
    (Instr.next (.pointer (some ⟨K, 0, none⟩)) true ty).run P W = .ok (.tuple #[.bool true, .int .i64 pos, .int .i32 (Utf8.decode s pos).1]) (setIter W K s (pos + (Utf8.decode s pos).2)) := by
  simp only [Instr.next, getObj, setObj, Sem.run_bind, Sem.run, hk, Result.andThen, h, if_true]
  simp [goInt, setIter]
theorem next_end_at {P : Program} (W : World) (K : Nat) (s : ByteArray) (pos : Nat) (ty : TypeId) (hk : W.heap[K]? = some (.stringIter s pos)) (h : ¬ pos < s.size) :
    (Instr.next (.pointer (some ⟨K, 0, none⟩)) true ty).run P W = .ok (.tuple #[.bool false]) W := by
  simp [Instr.next, getObj, Sem.run, hk, h]
theorem at_iter {W : World} {V : Nat} {T : TypeId} {cs : List Value} (h : At W V T cs) (K : Nat) (s : ByteArray) (pos : Nat) (hne : V ≠ K) : At (setIter W K s pos) V T cs := (setIter_other W K V s pos hne).trans h
theorem chg_iter {w W : World} {V : Nat} {cs : List Value} (h : Chg w V cs W) {K : Nat} (hK : w.heap.size ≤ K) (s : ByteArray) (pos : Nat) : Chg w V cs (setIter W K s pos) := below_setIter h hK s pos
theorem chg_blk {w w1 : World} {V X : Nat} {cs : List Value} {o : Obj} (h : Chg w V cs w1) (k : w.heap[X]? = some o) (hx : X ≠ V) : w1.heap[X]? = some o := by
  have h2 : (w.setRow V cs.toArray).heap[X]? = some o := (setRow_other w V X _ hx).trans k
  exact (Below.block h X (Array.getElem?_eq_some_iff.1 k).1).trans h2
theorem iterPos_at (W : World) (K : Nat) (s : ByteArray) (p : Nat) (h : W.heap[K]? = some (.stringIter s p)) : W.iterPos K = p := by simp [World.iterPos, h]

theorem heapNew (w : World) (o : Obj) : (w.alloc o).heap[w.heap.size]? = some o := by
  show (w.heap.push _)[_]? = _
  simp
/-- What stands between two digits. -/
def Mid (w : World) (V : Nat) (v m : List Int) (U : World) : Prop :=
  ∃ k : Nat, k ≤ 160 ∧ U.heap[w.heap.size + 2]? = some (.stringIter rowsS k) ∧ At U w.heap.size 102 (w32 m) ∧ At U (w.heap.size + 1) 102 (w32 (rowAt m k)) ∧ Chg w V (w32 (roundsL v m (k / 16))) U
theorem mid_start (w : World) (V : Nat) (v m : List Int) (T : TypeId) (hv : At w V T (w32 v)) :
    Mid w V v m (((w.alloc (.cells (w32 m).toArray 102)).alloc (.cells #[Value.int .u32 0, Value.int .u32 0, Value.int .u32 0, Value.int .u32 0, Value.int .u32 0, Value.int .u32 0, Value.int .u32 0, Value.int .u32 0, Value.int .u32 0, Value.int .u32 0, Value.int .u32 0, Value.int .u32 0, Value.int .u32 0, Value.int .u32 0, Value.int .u32 0, Value.int .u32 0] 102)).alloc (.stringIter rowsS 0)) := by
  refine ⟨0, by omega, ?_, ?_, ?_, ?_⟩
  · have : ((w.alloc (.cells (w32 m).toArray 102)).alloc (.cells #[Value.int .u32 0, Value.int .u32 0, Value.int .u32 0, Value.int .u32 0, Value.int .u32 0, Value.int .u32 0, Value.int .u32 0, Value.int .u32 0, Value.int .u32 0, Value.int .u32 0, Value.int .u32 0, Value.int .u32 0, Value.int .u32 0, Value.int .u32 0, Value.int .u32 0, Value.int .u32 0] 102)).heap.size = w.heap.size + 2 := by simp
    have h := heapNew ((w.alloc (.cells (w32 m).toArray 102)).alloc (.cells #[Value.int .u32 0, Value.int .u32 0, Value.int .u32 0, Value.int .u32 0, Value.int .u32 0, Value.int .u32 0, Value.int .u32 0, Value.int .u32 0, Value.int .u32 0, Value.int .u32 0, Value.int .u32 0, Value.int .u32 0, Value.int .u32 0, Value.int .u32 0, Value.int .u32 0, Value.int .u32 0] 102)) (.stringIter rowsS 0)
    rw [this] at h
    exact h
  · exact At.alloc (At.alloc (At.new w _ _) _) _
  · have := At.new (w.alloc (.cells (w32 m).toArray 102)) 102 (w32 (List.replicate 16 0))
    rw [World.size_alloc] at this
    exact At.alloc this _
  · have hB : Below w.heap.size w (((w.alloc (.cells (w32 m).toArray 102)).alloc (.cells #[Value.int .u32 0, Value.int .u32 0, Value.int .u32 0, Value.int .u32 0, Value.int .u32 0, Value.int .u32 0, Value.int .u32 0, Value.int .u32 0, Value.int .u32 0, Value.int .u32 0, Value.int .u32 0, Value.int .u32 0, Value.int .u32 0, Value.int .u32 0, Value.int .u32 0, Value.int .u32 0] 102)).alloc (.stringIter rowsS 0)) := (by repeat (first | assumption | exact Below.refl _ _ | refine Below.setCell ?_ (by first | omega | (simp; done) | (simp; omega)) _ | refine below_drewN ?_ _ | refine Below.drew ?_ | refine Below.alloc ?_ (by first | omega | (simp; done) | (simp; omega)) _ | refine Below.trans ?_ (Below.mono (by assumption) (by first | omega | (simp; done) | (simp; omega)))))
    exact Chg.self hv hB

set_option maxRecDepth 10000 in
set_option maxHeartbeats 1000000 in
theorem rounds_any (w : World) (V : Nat) (v m : List Int) (T : TypeId) (hv : At w V T (w32 v)) (lv : v.length = 16) (lm : m.length = 16) :
    Calls Tryd.prog 88 #[.pointer (some ⟨V, 0, none⟩), .agg (w32 m).toArray] w fun e w' => e = .returned (.tuple #[]) ∧ Chg w V (w32 (roundsL v m 10)) w' := by
  have HST := hide (mid_start w V v m T hv)
  have HV := hide hv
  have LV := hide lv
  have LM := hide lm
  have hVlt := hv.lt
  clear hv lv lm
  go_enter Tryd.func88, Tryd.ntmps88
  go_wp2_with fail
  go_loopw [] (fun wr => Mid w V v m wr) (fun wr => 160 - wr.iterPos (w.heap.size + 2))
  case atStart => exact HST.out
  case round =>
    obtain ⟨k, hk, hit, hm, hr, hC⟩ := hrel
    by_cases hlt : k < 160
    · obtain ⟨p, hp, r, hkr⟩ : ∃ p, p < 16 ∧ ∃ r, k = 16 * r + p := ⟨k % 16, by omega, k / 16, by omega⟩
      obtain ⟨ha, hvl⟩ := rowsS_get k hlt
      have hnx := fun ty => next_at (P := Tryd.prog) wr _ rowsS k ty hit hlt ha
      obtain ⟨c, hc⟩ : ∃ c : Nat, (rowsS[k]'hlt).toNat = c := ⟨_, rfl⟩
      rw [hc] at ha hvl hnx
      obtain ⟨tv, htv⟩ : ∃ tv, tab k = tv := ⟨_, rfl⟩
      have ht16 : tv < 16 := by rw [← htv]; exact tab_lt k hlt
      rw [htv] at hvl
      obtain ⟨W1, hW1⟩ : ∃ W1, W1 = setIter wr (w.heap.size + 2) rowsS (k + 1) := ⟨_, rfl⟩
      rw [← hW1] at hnx
      have hit1 : W1.heap[w.heap.size + 2]? = some (.stringIter rowsS (k + 1)) := by rw [hW1]; exact setIter_same _ _ _ _ _ hit
      have hm1 : At W1 w.heap.size 102 (w32 m) := by rw [hW1]; exact at_iter hm _ _ _ (by omega)
      have hr1 : At W1 (w.heap.size + 1) 102 (w32 (rowAt m k)) := by rw [hW1]; exact at_iter hr _ _ _ (by omega)
      have hC1 : Chg w V (w32 (roundsL v m (k / 16))) W1 := by rw [hW1]; exact chg_iter hC (by omega) _ _
      obtain ⟨x, hx⟩ : ∃ x, m.getD tv 0 = x := ⟨_, rfl⟩
      have cm : W1.cell? ⟨w.heap.size, tv, none⟩ = some (.int .u32 x) := by rw [hm1.cell, w32_get m tv (by rw [LM.out]; exact ht16), hx]
      obtain ⟨y, hy⟩ : ∃ y, (rowAt m k).getD p 0 = y := ⟨_, rfl⟩
      have cr : W1.cell? ⟨w.heap.size + 1, p, none⟩ = some (.int .u32 y) := by rw [hr1.cell, w32_get _ p (by rw [rowAt_len]; exact hp), hy]
      have fr := hr1.frozen p
      have q1 : (k : Int) % 16 = (p : Int) := by omega
      have q2 : (k : Int).tmod 16 = (p : Int) := by rw [Int.tmod_eq_emod_of_nonneg (by omega)]; exact q1
      have ht2 : (tv : Int) < 16 := by omega
      have hp2 : (p : Int) < 16 := by omega
      have hr2 : At (W1.setCell ⟨w.heap.size + 1, p, none⟩ (.int .u32 x)) (w.heap.size + 1) 102 (w32 (rowAt m (k + 1))) := by
        have := hr1.setCell p (.int .u32 x)
        rw [w32_set, ← hx, ← htv] at this
        rw [rowAt, show k % 16 = p by omega, ← hx, ← htv]
        exact this
      have hm2 := hm1.setCell_other (X := w.heap.size + 1) (by omega) p (.int .u32 x)
      have hit2 : (W1.setCell ⟨w.heap.size + 1, p, none⟩ (.int .u32 x)).heap[w.heap.size + 2]? = some (.stringIter rowsS (k + 1)) := (heap_setCell_other _ _ _ _ (by simp)).trans hit1
      have hC2 : Chg w V (w32 (roundsL v m (k / 16))) (W1.setCell ⟨w.heap.size + 1, p, none⟩ (.int .u32 x)) := Below.setCell hC1 (by simp) _
      have HR2 := hide hr2
      have HM2 := hide hm2
      have HIT2 := hide hit2
      have HC2 := hide hC2
      have HKR := hide hkr
      have HIT := hide hit
      have HCV := hide hvl
      have HA := hide ha
      clear hit hm hr hC hW1 hit1 hm1 hr1 hC1 hr2 hm2 hit2 hC2 hkr hx hy htv hc
      by_cases hp15 : p = 15
      · subst hp15
        go_wp2_with (first
          | (go_at_call 46; refine (value_any _ _ (by omega) (by have := HA.out; omega)).mono ?_; rintro e w1 ⟨rfl, rfl⟩; rw [HCV.out])
          | (go_at_call 108; refine (round_any _ V (w.heap.size + 1) (roundsL v m (k / 16)) (rowAt m (k + 1)) T 102 (by exact HC2.out.at HV.out) (by exact HR2.out) (by omega) (by rw [roundsL_len]; exact LV.out) (rowAt_len _ _)).mono ?_; rintro e w1 ⟨rfl, h1⟩))
        have e0 := iterPos_at _ _ _ _ HIT.out
        go_roundw
        case rel =>
          have e1 := chg_blk h1 HIT2.out (by omega)
          have hk1 : (k + 1) / 16 = k / 16 + 1 := by have := HKR.out; omega
          refine ⟨k + 1, by omega, e1, h1.other HM2.out (by omega), h1.other HR2.out (by omega), ?_⟩
          rw [hk1, roundsL, ← row_done m (k / 16) (by omega) (k + 1) (by have := HKR.out; omega)]
          exact HC2.out.trans h1
        case measure =>
          have e1 := iterPos_at _ _ _ _ (chg_blk h1 HIT2.out (by omega))
          rw [e0, e1]
          omega
      · have hp3 : ¬ (p : Int) = 15 := by omega
        go_wp2_with (first
          | (go_at_call 46; refine (value_any _ _ (by omega) (by have := HA.out; omega)).mono ?_; rintro e w1 ⟨rfl, rfl⟩; rw [HCV.out]))
        have e0 := iterPos_at _ _ _ _ HIT.out
        go_roundw
        case rel =>
          have hk1 : (k + 1) / 16 = k / 16 := by have := HKR.out; omega
          refine ⟨k + 1, by omega, HIT2.out, HM2.out, HR2.out, ?_⟩
          rw [hk1]
          exact HC2.out
        case measure =>
          have e1 := iterPos_at _ _ _ _ HIT2.out
          rw [e0, e1]
          omega
    · obtain rfl : k = 160 := by omega
      have hnx := fun ty => next_end_at (P := Tryd.prog) wr _ rowsS 160 ty hit hlt
      have HC := hide hC
      clear hit hm hr hC
      go_wp2_with fail
      go_end0
      exact ⟨rfl, HC.out⟩
end BlkF
end Go.Proofs.YtfmegeibnjmfpaaDoor
