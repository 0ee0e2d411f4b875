/-
  CopyInts and SameInts.
-/
import Derived.Test.YtcokhdajdnkinaaWideI
import Derived.ArgAppend
import Derived.OwnWalk
namespace Go.Proofs.Ytcokhdajdnkinaa
open Go.RowKit Go.Shelf
namespace WideU
open WideA

theorem infoInt : (Try.prog.info? 3).map (fun i => (i.zero, i.size, i.bytes)) = some (some (.int .i64 0), 1, 8) := by kernel_rfl

/-- A copy: a new block that holds the same numbers. -/
def Copied (w : World) (xs : List Int) (n : Nat) (v : Value) (w' : World) : Prop :=
  ∃ g c, v = .slice (some ⟨g, 0, none⟩) n c ∧ w.heap.size ≤ g ∧ g < w'.heap.size ∧ n ≤ c ∧ (∀ k, k < n → w'.cell? ⟨g, 0 + k, none⟩ = some (.int .i64 (xs.getD k 0)))

theorem copied_of (w w' : World) (xs : List Int) (n : Nat) (v : Value) (base : Nat) (hb : w.heap.size ≤ base) (hn : n = xs.length) (h0 : v = .slice none 0 0 → n ≠ 0) (h : w'.ownsRow base 3 1 v n (xs.map (Value.int .i64))) : Copied w xs n v w' := by
  obtain ⟨hl, ⟨rfl, rfl⟩ | ⟨g, c, cur, rfl, hg, hh, hc, _, hs, ht⟩⟩ := h
  · exact absurd rfl (h0 rfl)
  · refine ⟨g, c, rfl, Nat.le_trans hb hg, ?_, hc, fun k hk => ?_⟩
    · exact (Array.getElem?_eq_some_iff.mp hh).1
    · have hcur : cur[k]? = some (.int .i64 (xs.getD k 0)) := by
        have h1 : (cur.toList.take (n * 1))[k]? = (xs.map (Value.int .i64))[k]? := by rw [ht]
        rw [List.getElem?_take_of_lt (by omega), List.getElem?_map, List.getElem?_eq_getElem (by omega : k < xs.length)] at h1
        rw [← Array.getElem?_toList, h1]
        simp [List.getD, List.getElem?_eq_getElem (by omega : k < xs.length)]
      simp [World.cell?, hh, hcur]

set_option maxRecDepth 100000 in
set_option maxHeartbeats 1000000 in
theorem copy_some (xs : List Int) (b off n cap : Nat) (w : World) (hn : n = xs.length) (h0 : 0 < n) (hm : n ≤ 80)
    (hcell : ∀ k, k < n → w.cell? ⟨b, off + k, none⟩ = some (.int .i64 (xs.getD k 0))) (hb : b < w.heap.size) :
    Calls Try.prog 11 #[.slice (some ⟨b, off, none⟩) n cap] w fun e w' => ∃ v, e = .returned v ∧ Copied w xs n v w' ∧ Below w.heap.size w w' := by
  obtain ⟨i0, hi, hz0, hz1, hz2⟩ := info_parts infoInt
  have HC := hide hcell
  have HN := hide hn
  have H0 := hide h0
  clear hcell hn
  go_enter Try.func11, Try.ntmps11
  go_wp2_with (at_builtin; go_loud (refine wpList_append_grows _ rfl (.tmp 3) (.tmp 4) 25 rfl 3 i0 (.int .i64 0) 1 8 Try.underlying25 hi hz0 hz1 hz2 rfl (by decide) (some ⟨w.heap.size, 0, none⟩) 0 0 [] rfl (fun h => by cases h) rfl (by intro _ _ _ _ h; simp at h) ⟨b, off, none⟩ n cap (xs.map (Value.int .i64)) rfl ?hlen ?hc1 ?hc2 (by omega) (by unfold maxLen; omega) (by omega) ?hgrow))
  case hlen => rw [List.length_map, ← HN.out, Nat.mul_one]
  case hc1 =>
    intro j u hj
    have hj2 : j < n := by
      have := (List.getElem?_eq_some_iff.mp hj).1
      rw [List.length_map] at this
      rw [HN.out]; exact this
    rw [List.getElem?_map, List.getElem?_eq_getElem (by rw [← HN.out]; exact hj2 : j < xs.length)] at hj
    have hc := HC.out j hj2
    rw [List.getD, List.getElem?_eq_getElem (by rw [← HN.out]; exact hj2 : j < xs.length)] at hc
    rw [Addr.add_lit]
    refine ((((Below.refl w.heap.size w).alloc (Nat.le_refl _) _).cell (p := ⟨b, off + j, none⟩) hb).trans hc).trans ?_
    simpa using hj
  case hc2 => intro u hu; obtain ⟨x, _, rfl⟩ := List.mem_map.mp hu; rfl
  case hgrow =>
    intro v' w' hown hgrow
    go_wp2
    go_ret
    refine ⟨_, rfl, copied_of w w' xs n _ (w.heap.size + 1) (by omega) HN.out (fun _ => by have := H0.out; omega) (by simpa using hown), ((Below.refl _ _).alloc (Nat.le_refl _) _).grown hgrow (by simp) (fun k h => by cases h)⟩

set_option maxRecDepth 100000 in
set_option maxHeartbeats 1000000 in
theorem copy_none (a : Option Addr) (cap : Nat) (w : World) (ha : a = none → cap = 0) :
    Calls Try.prog 11 #[.slice a 0 cap] w fun e w' => ∃ v, e = .returned v ∧ Copied w [] 0 v w' ∧ Below w.heap.size w w' := by
  obtain ⟨i0, hi, hz0, hz1, hz2⟩ := info_parts infoInt
  have HO : Hid ((w.alloc (.cells #[] 3)).ownsRow w.heap.size 3 1 (.slice (some ⟨w.heap.size, 0, none⟩) 0 0) 0 []) := hide ⟨rfl, .inr ⟨w.heap.size, 0, #[], rfl, Nat.le_refl _, World.alloc_heap_new w _, Nat.le_refl _, by unfold maxLen; omega, rfl, rfl⟩⟩
  go_enter Try.func11, Try.ntmps11
  go_wp2_with (at_builtin; refine wpList_append_fits_any _ rfl (.tmp 3) (.tmp 4) 25 rfl w.heap.size 3 i0 1 Try.underlying25 hi hz1 w.heap.size 0 0 [] rfl HO.out a 0 cap [] rfl rfl (fun h => ⟨rfl, ha h⟩) (by intro _ _ _ _ h; simp at h) (by intro u hu; simp at hu) (by omega) ?hgrow)
  case hgrow =>
    intro w' hown hgrow
    go_wp2
    go_ret
    have hB : Below w.heap.size w w' := ((Below.refl _ _).alloc (Nat.le_refl _) _).grown hgrow (by simp) (fun k h => by cases h; exact Nat.le_refl _)
    refine ⟨_, rfl, copied_of w w' [] 0 _ w.heap.size (Nat.le_refl _) rfl (fun h => by cases h) (by simpa using hown), hB⟩

set_option maxHeartbeats 1000000 in
/-- Two lists of the same numbers are the same. -/
theorem same_any (xs : List Int) (a a' : Option Addr) (b off b' off' n cap cap' : Nat) (w : World) (hm : n ≤ 80)
    (ha : n = 0 ∨ a = some ⟨b, off, none⟩) (ha' : n = 0 ∨ a' = some ⟨b', off', none⟩)
    (hcell : ∀ k, k < n → w.cell? ⟨b, off + k, none⟩ = some (.int .i64 (xs.getD k 0)))
    (hcell' : ∀ k, k < n → w.cell? ⟨b', off' + k, none⟩ = some (.int .i64 (xs.getD k 0))) (hb : n = 0 ∨ b < w.heap.size) (hb' : n = 0 ∨ b' < w.heap.size) :
    Calls Try.prog 24 #[.slice a n cap, .slice a' n cap'] w fun e w' => e = .returned (.bool true) ∧ Below w.heap.size w w' := by
  have HC := hide hcell
  have HC2 := hide hcell'
  have HA := hide ha
  have HA2 := hide ha'
  clear hcell hcell' ha ha'
  have key : ∀ k, k < n → w.cell? ⟨b, off + k, none⟩ = some (.int .i64 (xs.getD k 0)) ∧ w.cell? ⟨b', off' + k, none⟩ = some (.int .i64 (xs.getD k 0)) := fun k hk => ⟨HC.out k hk, HC2.out k hk⟩
  have HK := hide key
  have HB1 := hide hb
  have HB2 := hide hb'
  clear hb hb'
  clear key HC HC2
  go_enter Try.func24, Try.ntmps24
  go_wp2
  go_loopw [5, 6] (fun u v wr => u = .bool true ∧ (∃ k : Nat, k ≤ n ∧ v = .int .i64 k) ∧ Below w.heap.size w wr) (fun _ v _ => n - (intOf v).toNat)
  case atStart => exact ⟨rfl, ⟨0, Nat.zero_le _, rfl⟩, Below.refl _ _⟩
  case round =>
    obtain ⟨rfl, ⟨k, hk, rfl⟩, hB⟩ := hrel
    by_cases hlt : k < n
    · obtain ⟨k1, k2⟩ := HK.out k hlt
      obtain rfl : a = some ⟨b, off, none⟩ := by rcases HA.out with h | h; omega; exact h
      obtain rfl : a' = some ⟨b', off', none⟩ := by rcases HA2.out with h | h; omega; exact h
      have j1 := (hB.cell (p := ⟨b, off + k, none⟩) (by have := HB1.out; show b < w.heap.size; omega)).trans k1
      have j2 := (hB.cell (p := ⟨b', off' + k, none⟩) (by have := HB2.out; show b' < w.heap.size; omega)).trans k2
      clear k1 k2
      obtain ⟨x, hx⟩ : ∃ x, x = xs.getD k 0 := ⟨_, rfl⟩
      rw [← hx] at j1 j2
      have t0 : (x == x) = true := by simp
      clear hx
      go_wp2
      go_quiet (fail)
      go_wp2
      go_roundw
      case rel => exact ⟨rfl, ⟨k + 1, by omega, by go_num⟩, (by repeat (first | assumption | exact Below.refl _ _ | refine Below.setCell ?_ (by first | omega | (simp; done) | (simp; omega)) _ | refine below_drewN ?_ _ | refine Below.drew ?_ | refine Below.alloc ?_ (by first | omega | (simp; done) | (simp; omega)) _ | refine Below.trans ?_ (Below.mono (by assumption) (by first | omega | (simp; done) | (simp; omega)))))⟩
      case measure => simp [intOf]; omega
    · obtain rfl : k = n := by omega
      go_wp2
      go_ret
      exact ⟨rfl, (by repeat (first | assumption | exact Below.refl _ _ | refine Below.setCell ?_ (by first | omega | (simp; done) | (simp; omega)) _ | refine below_drewN ?_ _ | refine Below.drew ?_ | refine Below.alloc ?_ (by first | omega | (simp; done) | (simp; omega)) _ | refine Below.trans ?_ (Below.mono (by assumption) (by first | omega | (simp; done) | (simp; omega)))))⟩
end WideU
end Go.Proofs.Ytcokhdajdnkinaa
