/-
  BlkSa, BlkSp, BlkSq, in one text.
-/
import Derived.Test.YtpambhlhkmkagaaGreatDoorBlkB
import Derived.Test.YtpambhlhkmkagaaGreatDoorWirS
import Derived.Test.YtpambhlhkmkagaaGreatDoorPvF
import Derived.Deep.MidRow
import Derived.Test.YtpambhlhkmkagaaGreatDoorBlkM
namespace Go.Proofs.YtpambhlhkmkagaaGreatDoor
namespace BlkSa
open Go.RowKit
open BlkM WirM WirS

theorem rbegin_any (w : World) : Calls Tryz.prog 60 #[] w fun e w' => e = .returned (.agg (w32 ini).toArray) ∧ Below w.heap.size w w' := by
  obtain ⟨R, hR⟩ : ∃ R, w.heap.size = R := ⟨_, rfl⟩
  have hA := At.new w 98 (w32 (List.replicate 8 0))
  have hb : Below w.heap.size w (w.alloc (.cells (w32 (List.replicate 8 0)).toArray 98)) := Below.alloc (Below.refl _ _) (Nat.le_refl _) _
  go_enter Tryz.func60, Tryz.ntmps60
  go_upto_region 0 with fail
  refine wp_region_lit ?_
  refine sV (.pointer (some ⟨w.heap.size, 0, none⟩)) (w.alloc (.cells (w32 (List.replicate 8 0)).toArray 98)) (by kernel_rfl) (by kernel_rfl) ?_
  simp only [Act.put, List.setIfInBounds_toArray, List.set_cons_zero]
  rw [hR] at hA hb ⊢
  generalize World.alloc w _ = x1 at *
  go_upto_region 1 with fail
  refine wp_region_lit ?_
  refine sV (.agg (w32 ini).toArray) (x1) (by kernel_rfl) (by kernel_rfl) ?_
  simp only [Act.put, List.setIfInBounds_toArray, List.set_cons_succ, List.set_cons_zero]
  refine stepStore (by rfl) _ _ _ (by rfl) R (w32 ini) (by kernel_rfl) (by kernel_rfl) hA 8 (by kernel_rfl) (by rfl) (by rfl) (oneCells_w32 _) ?_
  simp only [Act.put]
  have H2 := WirS.hide (hA.put (w32 ini))
  have B2 := WirS.hide (show Below R w (x1.setRow R (w32 ini).toArray) from Below.setRowOwn hb (Nat.le_refl _) _)
  clear hA hb
  generalize World.setRow x1 R _ = x2 at *
  go_wp2_with fail
  exact bodyPost_ret (retRow H2.out Tryz.results60 _ (by rfl) _ 8 Tryz.underlying98 rfl (by kernel_rfl) (by rfl)) rfl ⟨rfl, by rw [hR]; exact B2.out⟩
/-- A row of the table, as cells. -/
def i16 (l : List Nat) : List Value := l.map fun (n : Nat) => Value.int .i64 (n : Int)
def all : List Nat := (table.getD 0 []) ++ (table.getD 1 []) ++ (table.getD 2 []) ++ (table.getD 3 []) ++ (table.getD 4 []) ++ (table.getD 5 []) ++ (table.getD 6 []) ++ (table.getD 7 []) ++ (table.getD 8 []) ++ (table.getD 9 [])
theorem one_i16 (l : List Nat) : (i16 l).toArray.all (·.oneCell') = true := by simp [i16, Value.oneCell']
theorem all_row (r : Nat) (h : r < 10) (j : Nat) (v : Value) (hj : (i16 (table.getD r []))[j]? = some v) : (i16 all)[16 * r + j]? = some v := by
  have hl : j < 16 := by
    have := (List.getElem?_eq_some_iff.1 hj).1
    have e : ∀ r, r < 10 → (i16 (table.getD r [])).length = 16 := by decide
    rwa [e r h] at this
  have e : ∀ r, r < 10 → ∀ j, j < 16 → all[16 * r + j]? = (table.getD r [])[j]? := by decide
  have he := e r h j hl
  simp only [i16, List.getElem?_map] at hj ⊢
  rw [he]
  exact hj
theorem ixR (T r : Nat) (h : r < 10) (W : World) : (Instr.indexAt 149 (.pointer (some ⟨T, 0, none⟩)) (.int .i64 (r : Int))).run Tryz.prog W = .ok (.pointer (some ⟨T, 0 + r * 16, none⟩)) W := by
  obtain rfl | rfl | rfl | rfl | rfl | rfl | rfl | rfl | rfl | rfl : r = 0 ∨ r = 1 ∨ r = 2 ∨ r = 3 ∨ r = 4 ∨ r = 5 ∨ r = 6 ∨ r = 7 ∨ r = 8 ∨ r = 9 := by omega
  all_goals kernel_rfl
theorem opR (a : Operand → Value) (ob : Oper) (x y : Operand) (T r : Nat) (ho : ob.op = Op.indexAddr 149 x y) (hx : a x = .pointer (some ⟨T, 0, none⟩)) (hy : a y = .int .i64 (r : Int)) (h : r < 10) (W : World) :
    (execOp a ob).run Tryz.prog W = .ok (.value (.pointer (some ⟨T, 0 + r * 16, none⟩))) W := by
  unfold execOp
  rw [ho]
  simp only [hx, hy]
  simp only [Sem.run_bind, ixR T r h W, Result.andThen_ok, Sem.run_pure]
set_option maxRecDepth 10000 in
set_option maxHeartbeats 4000000 in
theorem rrow_any (w : World) (r : Nat) (h : r < 10) : Calls Tryz.prog 81 #[.int .i64 (r : Int)] w fun e w' => e = .returned (.agg (i16 (table.getD r [])).toArray) ∧ Below w.heap.size w w' := by
  obtain ⟨R, hR⟩ : ∃ R, w.heap.size = R := ⟨_, rfl⟩
  have hA := At.new w 132 (i16 (List.replicate 16 0))
  have hb : Below w.heap.size w (w.alloc (.cells (i16 (List.replicate 16 0)).toArray 132)) := Below.alloc (Below.refl _ _) (Nat.le_refl _) _
  go_enter Tryz.func81, Tryz.ntmps81
  go_upto_region 0 with fail
  refine wp_region_lit ?_
  refine sV (.pointer (some ⟨w.heap.size, 0, none⟩)) (w.alloc (.cells (i16 (List.replicate 16 0)).toArray 132)) (by kernel_rfl) (by kernel_rfl) ?_
  simp only [Act.put, List.setIfInBounds_toArray, List.set_cons_succ, List.set_cons_zero]
  rw [hR] at hA hb ⊢
  generalize World.alloc w _ = x1 at *
  go_upto_region 1 with fail
  refine wp_region_lit ?_
  refine sV (.agg (i16 (table.getD 0 [])).toArray) (x1) (by kernel_rfl) (by kernel_rfl) ?_
  simp only [Act.put, List.setIfInBounds_toArray, List.set_cons_succ, List.set_cons_zero]
  refine sV (.agg (i16 (table.getD 1 [])).toArray) (x1) (by kernel_rfl) (by kernel_rfl) ?_
  simp only [Act.put, List.setIfInBounds_toArray, List.set_cons_succ, List.set_cons_zero]
  refine sV (.agg (i16 (table.getD 2 [])).toArray) (x1) (by kernel_rfl) (by kernel_rfl) ?_
  simp only [Act.put, List.setIfInBounds_toArray, List.set_cons_succ, List.set_cons_zero]
  refine sV (.agg (i16 (table.getD 3 [])).toArray) (x1) (by kernel_rfl) (by kernel_rfl) ?_
  simp only [Act.put, List.setIfInBounds_toArray, List.set_cons_succ, List.set_cons_zero]
  refine sV (.agg (i16 (table.getD 4 [])).toArray) (x1) (by kernel_rfl) (by kernel_rfl) ?_
  simp only [Act.put, List.setIfInBounds_toArray, List.set_cons_succ, List.set_cons_zero]
  refine sV (.agg (i16 (table.getD 5 [])).toArray) (x1) (by kernel_rfl) (by kernel_rfl) ?_
  simp only [Act.put, List.setIfInBounds_toArray, List.set_cons_succ, List.set_cons_zero]
  refine sV (.agg (i16 (table.getD 6 [])).toArray) (x1) (by kernel_rfl) (by kernel_rfl) ?_
  simp only [Act.put, List.setIfInBounds_toArray, List.set_cons_succ, List.set_cons_zero]
  refine sV (.agg (i16 (table.getD 7 [])).toArray) (x1) (by kernel_rfl) (by kernel_rfl) ?_
  simp only [Act.put, List.setIfInBounds_toArray, List.set_cons_succ, List.set_cons_zero]
  refine sV (.agg (i16 (table.getD 8 [])).toArray) (x1) (by kernel_rfl) (by kernel_rfl) ?_
  simp only [Act.put, List.setIfInBounds_toArray, List.set_cons_succ, List.set_cons_zero]
  refine sV (.agg (i16 (table.getD 9 [])).toArray) (x1) (by kernel_rfl) (by kernel_rfl) ?_
  simp only [Act.put, List.setIfInBounds_toArray, List.set_cons_succ, List.set_cons_zero]
  refine sV (.agg (i16 all).toArray) (x1) (by kernel_rfl) (by kernel_rfl) ?_
  simp only [Act.put, List.setIfInBounds_toArray, List.set_cons_succ, List.set_cons_zero]
  refine sV (.pointer (some ⟨x1.heap.size, 0, none⟩)) (x1.alloc (.cells (i16 (List.replicate 160 0)).toArray 149)) (by kernel_rfl) (by kernel_rfl) ?_
  simp only [Act.put, List.setIfInBounds_toArray, List.set_cons_succ, List.set_cons_zero]
  obtain ⟨T, hT⟩ : ∃ T, x1.heap.size = T := ⟨_, rfl⟩
  have hRT : R < T := by rw [← hT]; exact hA.lt
  have hA2 := At.new x1 149 (i16 (List.replicate 160 0))
  have hb2 := Below.alloc hb (show R ≤ x1.heap.size by omega) (.cells (i16 (List.replicate 160 0)).toArray 149)
  have hR2 : At (x1.alloc (.cells (i16 (List.replicate 160 0)).toArray 149)) R 132 (i16 (List.replicate 16 0)) := At.fr (X := fun _ => False) hA (Fr.of_below (Below.alloc (Below.refl _ _) (Nat.le_refl _) _)) (fun h => h)
  rw [hT] at hA2 ⊢
  generalize World.alloc x1 _ = x2 at *
  refine stepStore (by rfl) _ _ _ (by rfl) T (i16 all) (by kernel_rfl) (by kernel_rfl) hA2 160 (by kernel_rfl) (by rfl) (by rfl) (one_i16 _) ?_
  simp only [Act.put]
  have hA3 := hA2.put (i16 all)
  have hb3 := Below.setRowOwn hb2 (show R ≤ T by omega) (i16 all).toArray
  have hR3 : At (x2.setRow T (i16 all).toArray) R 132 (i16 (List.replicate 16 0)) := At.fr (X := fun k => k = T) hR2 (WirO.Fr.setRow (Fr.refl _ _) T _ (fun _ => rfl)) (fun e => by omega)
  clear hA hb hA2 hb2 hR2
  generalize World.setRow x2 T _ = x3 at *
  have hrow : x3.rangeAt T (0 + r * 16) (i16 (table.getD r [])) := fun j v hj => by
    rw [hA3.cell, ← all_row r h j v hj]
    congr 1
    omega
  have hRow := WirS.hide hrow
  have H3 := WirS.hide hR3
  have B3 := WirS.hide hb3
  have hlen : (i16 (table.getD r [])).length = 16 := by
    have e : ∀ r, r < 10 → (i16 (table.getD r [])).length = 16 := by decide
    exact e r h
  have HLN := WirS.hide hlen
  clear hA3 hrow hR3 hb3 hlen
  go_upto_region 2 with fail
  refine wp_region_lit ?_
  refine sV (.int .i64 (r : Int)) (x3) (by kernel_rfl) (by kernel_rfl) ?_
  simp only [Act.put, List.setIfInBounds_toArray, List.set_cons_succ, List.set_cons_zero]
  refine sV (.pointer (some ⟨T, 0 + r * 16, none⟩)) x3 (by kernel_rfl) (opR _ _ _ _ T r (by rfl) (by kernel_rfl) (by kernel_rfl) h x3) ?_
  simp only [Act.put, List.setIfInBounds_toArray, List.set_cons_succ, List.set_cons_zero]
  refine wpList_load_mid (by rfl) _ _ (by rfl) T (0 + r * 16) (by kernel_rfl) (i16 (table.getD r [])) _ hRow.out Tryz.underlying132 (by rfl) (by rw [HLN.out]; kernel_rfl) ?_
  simp only [Act.put, List.setIfInBounds_toArray, List.set_cons_succ, List.set_cons_zero]
  refine stepStore (by rfl) _ _ _ (by rfl) R (i16 (table.getD r [])) (by kernel_rfl) (by kernel_rfl) H3.out 16 (by kernel_rfl) (by rfl) HLN.out (one_i16 _) ?_
  simp only [Act.put]
  have H4 := WirS.hide (H3.out.put (i16 (table.getD r [])))
  have B4 := WirS.hide (show Below R w (x3.setRow R (i16 (table.getD r [])).toArray) from Below.setRowOwn B3.out (Nat.le_refl _) _)
  clear H3 B3
  generalize World.setRow x3 R _ = x4 at *
  go_wp2_with fail
  exact bodyPost_ret (retRow H4.out Tryz.results81 _ (by rfl) _ 16 Tryz.underlying132 rfl (by kernel_rfl) HLN.out) rfl ⟨rfl, by rw [hR]; exact B4.out⟩
end BlkSa
end Go.Proofs.YtpambhlhkmkagaaGreatDoor

namespace Go.Proofs.YtpambhlhkmkagaaGreatDoor
namespace BlkSp
open BlkM

/-- The bytes, zeros behind them up to whole blocks, one at least. -/
def allL (l : List Int) : List Int := l ++ List.replicate (64 * (before l.length + 1) - l.length) 0
theorem before_le (n : Nat) : n ≤ 64 * (before n + 1) := by unfold before; omega
theorem allL_len (l : List Int) : (allL l).length = 64 * (before l.length + 1) := by
  have := before_le l.length
  simp only [allL, List.length_append, List.length_replicate]
  omega
/-- The document's words behind k blocks. -/
def dh (l : List Int) : Nat → List Int
  | 0 => h0
  | k + 1 => comp (dh l k) (((allL l).drop (64 * k)).take 64) ((min l.length (64 * k + 64) : Nat) : Int) (if 64 * k + 64 = (allL l).length then 4294967295 else 0)
theorem all_mid (l : List Int) (k : Nat) (h : k < before l.length) : ((allL l).drop (64 * k)).take 64 = (l.drop (64 * k)).take 64 := by
  have : 64 * k + 64 ≤ l.length := by unfold before at h; omega
  unfold allL
  rw [List.drop_append_of_le_length (by omega), List.take_append_of_le_length (by rw [List.length_drop]; omega)]
theorem all_last (l : List Int) : ((allL l).drop (64 * before l.length)).take 64 = pad 64 (l.drop (64 * before l.length)) := by
  have h1 : 64 * before l.length ≤ l.length := by unfold before; omega
  have h2 := before_le l.length
  unfold allL pad
  rw [List.drop_append_of_le_length h1, List.length_drop, show 64 * (before l.length + 1) - l.length = 64 - (l.length - 64 * before l.length) by omega]
  exact List.take_of_length_le (by rw [List.length_append, List.length_drop, List.length_replicate]; omega)
theorem dh_hs (l : List Int) : ∀ k, k ≤ before l.length → dh l k = hs l k
  | 0, _ => rfl
  | k + 1, h => by
    have hn : 64 * k + 64 ≤ l.length := by unfold before at h; omega
    rw [dh, hs, dh_hs l k (by omega), all_mid l k (by omega), if_neg (by rw [allL_len]; omega), Nat.min_eq_right hn, show 64 * k + 64 = 64 * (k + 1) by omega]
theorem dh_fin (l : List Int) : dh l (before l.length + 1) = fin l := by
  have h2 := before_le l.length
  rw [dh, dh_hs l _ (Nat.le_refl _), all_last, if_pos (by rw [allL_len]; omega), Nat.min_eq_left (by omega)]
  rfl
/-- What the document's last loop makes of v, as comp says it. -/
theorem hp_doc (h v w : Int) : xo (xo h v) w = xo h (xo v w) := xo_assoc h v w
theorem xo_zero (x : Int) (h0 : 0 ≤ x) (h1 : x < 4294967296) : xo x 0 = x := by
  rw [xo_bv]
  simp
  omega
end BlkSp
end Go.Proofs.YtpambhlhkmkagaaGreatDoor

namespace Go.Proofs.YtpambhlhkmkagaaGreatDoor
namespace BlkSq
open BlkM BlkSp

/-- The words v, when k of the eight pairs are laid. -/
def vp (h : List Int) (k : Nat) : List Int := (List.range 16).map fun i => if i < k then h.getD i 0 else if 8 ≤ i ∧ i < 8 + k then ini.getD (i - 8) 0 else 0
theorem vp_len (h : List Int) (k : Nat) : (vp h k).length = 16 := by simp [vp]
theorem vp_zero (h : List Int) : vp h 0 = List.replicate 16 0 := by
  have : ∀ i, i < 16 → (if i < 0 then h.getD i 0 else if 8 ≤ i ∧ i < 8 + 0 then ini.getD (i - 8) 0 else 0) = 0 := fun i _ => by
    rw [if_neg (by omega), if_neg (by omega)]
  apply List.ext_getElem
  · simp [vp]
  · intro i h1 h2
    simp only [vp, List.getElem_map, List.getElem_range, List.getElem_replicate]
    exact this i (by simp [vp] at h1; exact h1)
theorem vp_set (h : List Int) (k : Nat) (hk : k < 8) : ((vp h k).set k (h.getD k 0)).set (k + 8) (ini.getD k 0) = vp h (k + 1) := by
  apply List.ext_getElem
  · simp [vp]
  · intro i h1 h2
    have hi : i < 16 := by simp [vp] at h2; exact h2
    rw [List.getElem_set, List.getElem_set]
    simp only [vp, List.getElem_map, List.getElem_range]
    by_cases e : k + 8 = i
    · subst e
      rw [if_pos rfl, if_neg (by omega), if_pos (by omega), show k + 8 - 8 = k by omega]
    · rw [if_neg e]
      by_cases e2 : k = i
      · subst e2
        rw [if_pos rfl, if_pos (by omega)]
      · rw [if_neg e2]
        by_cases e3 : i < k
        · rw [if_pos e3, if_pos (by omega)]
        · rw [if_neg e3, if_neg (show ¬ i < k + 1 by omega)]
          by_cases e4 : 8 ≤ i ∧ i < 8 + k
          · rw [if_pos e4, if_pos (by omega)]
          · rw [if_neg e4, if_neg (by omega)]
theorem vp_all (h : List Int) (hh : h.length = 8) : vp h 8 = h ++ ini := by
  apply List.ext_getElem
  · simp [vp, hh, ini]
  · intro i h1 h2
    have hi : i < 16 := by simp [vp] at h1; exact h1
    simp only [vp, List.getElem_map, List.getElem_range]
    by_cases e : i < 8
    · rw [if_pos e, List.getElem_append_left (by omega)]
      simp [List.getD, List.getElem?_eq_getElem (show i < h.length by omega)]
    · rw [if_neg e, if_pos (by omega), List.getElem_append_right (by omega)]
      have hl : i - 8 < ini.length := by simp [ini]; omega
      simp [List.getD, hh, List.getElem?_eq_getElem hl]
/-- The words of the hash, when k of them are done. -/
def hp (h v : List Int) (k : Nat) : List Int := (List.range 8).map fun i => if i < k then xo (h.getD i 0) (xo (v.getD i 0) (v.getD (i + 8) 0)) else h.getD i 0
theorem hp_len (h v : List Int) (k : Nat) : (hp h v k).length = 8 := by simp [hp]
theorem hp_zero (h v : List Int) (hh : h.length = 8) : hp h v 0 = h := by
  apply List.ext_getElem
  · simp [hp, hh]
  · intro i h1 h2
    simp only [hp, List.getElem_map, List.getElem_range]
    rw [if_neg (by omega)]
    simp [List.getD, List.getElem?_eq_getElem h2]
theorem hp_get (h v : List Int) (k : Nat) (hk : k < 8) : (hp h v k).getD k 0 = h.getD k 0 := by
  simp [hp, List.getD, List.getElem?_map, List.getElem?_range hk]
theorem hp_set (h v : List Int) (k : Nat) (hk : k < 8) : (hp h v k).set k (xo (xo ((hp h v k).getD k 0) (v.getD k 0)) (v.getD (k + 8) 0)) = hp h v (k + 1) := by
  rw [hp_get h v k hk, hp_doc]
  apply List.ext_getElem
  · simp [hp]
  · intro i h1 h2
    rw [List.getElem_set]
    simp only [hp, List.getElem_map, List.getElem_range]
    by_cases e : k = i
    · subst e
      rw [if_pos rfl, if_pos (by omega)]
    · rw [if_neg e]
      by_cases e2 : i < k
      · rw [if_pos e2, if_pos (by omega)]
      · rw [if_neg e2, if_neg (by omega)]
theorem hp_all (h b : List Int) (n last : Int) : hp h (roundsL (BlkM.start h n last) (wordsL b) 10) 8 = comp h b n last := by
  simp only [hp, comp]
  exact List.map_congr_left (fun i hi => by rw [if_pos (List.mem_range.1 hi)])
end BlkSq
end Go.Proofs.YtpambhlhkmkagaaGreatDoor

