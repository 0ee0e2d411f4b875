/-
  The document's words v, and its words behind a block, step by step: pure.
-/
import Derived.Test.YtfmegeibnjmfpaaDoorBlkSp
namespace Go.Proofs.YtfmegeibnjmfpaaDoor
namespace BlkSq
open BlkM BlkSp

/-- The words v, when k of the eight pairs are laid. -/
def vp (h : List Int) (k : Nat) : List Int := (List.range 16).map fun i => if i < k then h.getD i 0 else if 8 ≤ i ∧ i < 8 + k then ini.getD (i - 8) 0 else 0
theorem vp_len (h : List Int) (k : Nat) : (vp h k).length = 16 := by simp [vp]
theorem vp_zero (h : List Int) : vp h 0 = List.replicate 16 0 := by
  have : ∀ i, i < 16 → (if i < 0 then h.getD i 0 else if 8 ≤ i ∧ i < 8 + 0 then ini.getD (i - 8) 0 else 0) = 0 := fun i _ => by
    rw [if_neg (by omega), if_neg (by omega)]
  apply List.ext_getElem
  · simp [vp]
  · intro i h1 h2
    simp only [vp, List.getElem_map, List.getElem_range, List.getElem_replicate]
    exact this i (by simp [vp] at h1; exact h1)
theorem vp_set (h : List Int) (k : Nat) (hk : k < 8) : ((vp h k).set k (h.getD k 0)).set (k + 8) (ini.getD k 0) = vp h (k + 1) := by
  apply List.ext_getElem
  · simp [vp]
  · intro i h1 h2
    have hi : i < 16 := by simp [vp] at h2; exact h2
    rw [List.getElem_set, List.getElem_set]
    simp only [vp, List.getElem_map, List.getElem_range]
    by_cases e : k + 8 = i
    · subst e
      rw [if_pos rfl, if_neg (by omega), if_pos (by omega), show k + 8 - 8 = k by omega]
    · rw [if_neg e]
      by_cases e2 : k = i
      · subst e2
        rw [if_pos rfl, if_pos (by omega)]
      · rw [if_neg e2]
        by_cases e3 : i < k
        · rw [if_pos e3, if_pos (by omega)]
        · rw [if_neg e3, if_neg (show ¬ i < k + 1 by omega)]
          by_cases e4 : 8 ≤ i ∧ i < 8 + k
          · rw [if_pos e4, if_pos (by omega)]
          · rw [if_neg e4, if_neg (by omega)]
theorem vp_all (h : List Int) (hh : h.length = 8) : vp h 8 = h ++ ini := by
  apply List.ext_getElem
  · simp [vp, hh, ini]
  · intro i h1 h2
    have hi : i < 16 := by simp [vp] at h1; exact h1
    simp only [vp, List.getElem_map, List.getElem_range]
    by_cases e : i < 8
    · rw [if_pos e, List.getElem_append_left (by omega)]
      simp [List.getD, List.getElem?_eq_getElem (show i < h.length by omega)]
    · rw [if_neg e, if_pos (by omega), List.getElem_append_right (by omega)]
      have hl : i - 8 < ini.length := by simp [ini]; omega
      simp [List.getD, hh, List.getElem?_eq_getElem hl]
/-- The words of the hash, when k of them are done. -/
def hp (h v : List Int) (k : Nat) : List Int := (List.range 8).map fun i => if i < k then xo (h.getD i 0) (xo (v.getD i 0) (v.getD (i + 8) 0)) else h.getD i 0
theorem hp_len (h v : List Int) (k : Nat) : (hp h v k).length = 8 := by simp [hp]
theorem hp_zero (h v : List Int) (hh : h.length = 8) : hp h v 0 = h := by
  apply List.ext_getElem
  · simp [hp, hh]
  · intro i h1 h2
    simp only [hp, List.getElem_map, List.getElem_range]
    rw [if_neg (by omega)]
    simp [List.getD, List.getElem?_eq_getElem h2]
theorem hp_get (h v : List Int) (k : Nat) (hk : k < 8) : (hp h v k).getD k 0 = h.getD k 0 := by
  simp [hp, List.getD, List.getElem?_map, List.getElem?_range hk]
theorem hp_set (h v : List Int) (k : Nat) (hk : k < 8) : (hp h v k).set k (xo (xo ((hp h v k).getD k 0) (v.getD k 0)) (v.getD (k + 8) 0)) = hp h v (k + 1) := by
  rw [hp_get h v k hk, hp_doc]
  apply List.ext_getElem
  · simp [hp]
  · intro i h1 h2
    rw [List.getElem_set]
    simp only [hp, List.getElem_map, List.getElem_range]
    by_cases e : k = i
    · subst e
      rw [if_pos rfl, if_pos (by omega)]
    · rw [if_neg e]
      by_cases e2 : i < k
      · rw [if_pos e2, if_pos (by omega)]
      · rw [if_neg e2, if_neg (by omega)]
theorem hp_all (h b : List Int) (n last : Int) : hp h (roundsL (BlkM.start h n last) (wordsL b) 10) 8 = comp h b n last := by
  simp only [hp, comp]
  exact List.map_congr_left (fun i hi => by rw [if_pos (List.mem_range.1 hi)])
end BlkSq
end Go.Proofs.YtfmegeibnjmfpaaDoor
