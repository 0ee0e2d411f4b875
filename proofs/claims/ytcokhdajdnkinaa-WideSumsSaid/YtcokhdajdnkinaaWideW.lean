/-
  Layer 1: WideSums, all of it.
-/
import Derived.Test.YtcokhdajdnkinaaWideV
import Derived.OpenShut
namespace Go.Proofs.Ytcokhdajdnkinaa
open Go.RowKit Go.Shelf
namespace WideW
open WideA WideB WideT WideI WideF WideG WideH WideK WideR WideS WideU WideV

/-- A list of numbers that lies in memory. -/
def IntsAt (W : World) (a : Option Addr) (len cap : Nat) (xs : List Int) : Prop :=
  len = xs.length ∧ (a = none → cap = 0) ∧ (∀ k, 0 ≤ xs.getD k 0 → xs.getD k 0 ≤ 9223372036854775807) ∧ ∃ b off, (len = 0 ∨ (a = some ⟨b, off, none⟩ ∧ b < W.heap.size)) ∧ (∀ k, k < len → W.cell? ⟨b, off + k, none⟩ = some (.int .i64 (xs.getD k 0)))
theorem ints_nil (W : World) : IntsAt W none 0 0 [] := ⟨rfl, fun _ => rfl, fun k _ => by simp, 0, 0, .inl rfl, fun k hk => absurd hk (by omega)⟩
theorem ints_some (W : World) (x : Addr) (l c : Nat) (zs : List Int) (hl : l ≤ c) (hz : zs.length = c) (hcell : ∀ i, i < zs.length → W.cell? (x.add i) = some (.int .i64 (zs.getD i 0))) (hwz : ∀ n ∈ zs, (Lit.int .i64 n).wf = true) : IntsAt W (some x) l c (zs.take l) := by
  refine ⟨(by simp; omega), (fun h => by cases h), (fun k _ => ?_), ?_⟩
  · by_cases hk : k < (zs.take l).length
    · rw [List.getD, List.getElem?_eq_getElem hk]
      have := hwz _ (List.mem_of_mem_take (List.getElem_mem hk))
      simp only [Option.getD_some]
      simp [Lit.wf, IntKind.min, IntKind.max, IntKind.signed, IntKind.bits] at this ⊢
      omega
    · rw [List.getD, List.getElem?_eq_none (by omega)]
      simp
  · by_cases h0 : l = 0
    · exact ⟨0, 0, .inl h0, fun k hk => absurd hk (by omega)⟩
    · obtain ⟨b, off, rfl, hc⟩ := Go.ints_at hcell (by omega)
      refine ⟨b, off, .inr ⟨rfl, ?_⟩, fun k hk => ?_⟩
      · have := hc 0 (by omega)
        unfold World.cell? at this
        dsimp only at this
        split at this
        · rename_i h
          exact (Array.getElem?_eq_some_iff.mp h).1
        · cases this
      · rw [hc k (by omega)]
        simp [List.getD, List.getElem?_take_of_lt hk]
theorem sumRes_one {xs : List Int} {V U : Value} (h : sumRes xs V) (k : sumRes xs U) : V = U := by
  rcases h with ⟨h, rfl⟩ | ⟨⟨i, hi, hn⟩, rfl⟩ <;> rcases k with ⟨k, rfl⟩ | ⟨⟨j, hj, hm⟩, rfl⟩
  · rfl
  · have := h j hj; omega
  · have := k i hi; omega
  · rfl
theorem sumRes_is (xs : List Int) : ∃ s0 s1 cs : Int, sumRes xs (.tuple #[.agg #[.int .u64 s0, .int .u64 s1], .int .i64 cs]) := by
  by_cases h : ∀ k, k < xs.length → 0 ≤ xs.getD k 0
  · exact ⟨_, _, _, .inl ⟨h, rfl⟩⟩
  · refine ⟨_, _, _, .inr ⟨?_, rfl⟩⟩
    apply Classical.byContradiction
    intro hn
    exact h fun k hk => by
      apply Classical.byContradiction
      intro hk2
      exact hn ⟨k, hk, by omega⟩

set_option maxRecDepth 100000 in
set_option maxHeartbeats 4000000 in
theorem su_long (ah al bh bl n : Int) (la : Option Addr) (ln lc : Nat) (w : World) (hl : ¬ ln ≤ 80) :
    Calls Try.prog 3 #[.agg #[.int .u64 ah, .int .u64 al], .agg #[.int .u64 bh, .int .u64 bl], .int .i64 n, .slice la ln lc] w fun e w' => e = .returned (.bool true) ∧ Below w.heap.size w w' := by
  have sl : decide (80 < (ln : Int)) = true := by simp; omega
  clear hl
  go_enter Try.func3, Try.ntmps3
  go_wp2_with fail
  refine (awake_any _).mono ?_
  rintro e w1 ⟨rfl, hb⟩
  have hB : Below w.heap.size w w1 := Below.trans (b := _) (by repeat' (first | with_reducible assumption | with_reducible exact Below.refl _ _ | with_reducible refine Below.setCell ?_ ?_ _ | with_reducible refine below_drewN ?_ _ | with_reducible refine Below.drew ?_ | with_reducible refine Below.alloc ?_ ?_ _ | with_reducible refine Below.trans ?_ (Below.mono (by with_reducible assumption) ?_) | omega | (simp; done) | (simp; omega))) (hb.mono (by simp; omega))
  clear hb
  go_wp2
  go_ret
  exact ⟨rfl, (by repeat' (first | with_reducible assumption | with_reducible exact Below.refl _ _ | with_reducible refine Below.setCell ?_ ?_ _ | with_reducible refine below_drewN ?_ _ | with_reducible refine Below.drew ?_ | with_reducible refine Below.alloc ?_ ?_ _ | with_reducible refine Below.trans ?_ (Below.mono (by with_reducible assumption) ?_) | omega | (simp; done) | (simp; omega)))⟩

theorem sums_any (ah al bh bl n : Int) (la : Option Addr) (ln lc : Nat) (xs : List Int) (w : World) (ahl : 0 ≤ ah) (ahu : ah < 18446744073709551616) (all : 0 ≤ al) (alu : al < 18446744073709551616) (bhl : 0 ≤ bh) (bhu : bh < 18446744073709551616) (bll : 0 ≤ bl) (blu : bl < 18446744073709551616) (nu : n ≤ 9223372036854775807) (hI : IntsAt w la ln lc xs) :
    Calls Try.prog 3 #[.agg #[.int .u64 ah, .int .u64 al], .agg #[.int .u64 bh, .int .u64 bl], .int .i64 n, .slice la ln lc] w fun e w' => e = .returned (.bool true) ∧ Below w.heap.size w w' := by
  by_cases hl : ln ≤ 80
  case neg => exact su_long ah al bh bl n la ln lc w hl
  obtain ⟨hn, hno, hw, b, off, hat, hc⟩ := hI
  obtain ⟨x0, x1, cx, HX, HY⟩ : ∃ x0 x1 cx : Int, (∀ W : World, Calls Try.prog 12 #[.int .i64 n] W fun e w' => e = .returned (.tuple #[.agg #[.int .u64 x0, .int .u64 x1], .int .i64 cx]) ∧ Below W.heap.size W w') ∧ (∀ W : World, Calls Try.prog 13 #[.int .i64 n] W fun e w' => e = .returned (.tuple #[.agg #[.int .u64 x0, .int .u64 x1], .int .i64 cx]) ∧ Below W.heap.size W w') := by
    by_cases h : n < 0
    · exact ⟨0, 0, 3, fun W => of_neg n W h, fun W => rof_neg n W h⟩
    · exact ⟨0, n, 0, fun W => of_pos n W (by omega) nu, fun W => rof_pos n W (by omega) nu⟩
  obtain ⟨t0, t1, ct, HT, HU⟩ : ∃ x0 x1 cx : Int, (∀ W : World, Calls Try.prog 16 #[.agg #[.int .u64 ah, .int .u64 al], .int .i64 n] W fun e w' => e = .returned (.tuple #[.agg #[.int .u64 x0, .int .u64 x1], .int .i64 cx]) ∧ Below W.heap.size W w') ∧ (∀ W : World, Calls Try.prog 17 #[.agg #[.int .u64 ah, .int .u64 al], .int .i64 n] W fun e w' => e = .returned (.tuple #[.agg #[.int .u64 x0, .int .u64 x1], .int .i64 cx]) ∧ Below W.heap.size W w') := by
    by_cases h : n < 0
    · exact ⟨0, 0, 3, fun W => times_neg ah al n W h, fun W => rtimes_neg ah al n W h⟩
    · exact ⟨_, _, _, fun W => times_any ah al n W ahl ahu all alu (by omega) nu, fun W => rtimes_any ah al n W ahl ahu all alu (by omega) nu⟩
  obtain ⟨p0, p1, cp, HP, HQ⟩ : ∃ x0 x1 cx : Int, (∀ W : World, Calls Try.prog 14 #[.agg #[.int .u64 ah, .int .u64 al], .agg #[.int .u64 bh, .int .u64 bl]] W fun e w' => e = .returned (.tuple #[.agg #[.int .u64 x0, .int .u64 x1], .int .i64 cx]) ∧ Below W.heap.size W w') ∧ (∀ W : World, Calls Try.prog 15 #[.agg #[.int .u64 ah, .int .u64 al], .agg #[.int .u64 bh, .int .u64 bl]] W fun e w' => e = .returned (.tuple #[.agg #[.int .u64 x0, .int .u64 x1], .int .i64 cx]) ∧ Below W.heap.size W w') :=
    ⟨_, _, _, fun W => plus_any ah al bh bl W ahl ahu all alu bhl bhu bll blu, fun W => rPlus ah al bh bl W ahl ahu all alu bhl bhu bll blu⟩
  obtain ⟨s0, s1, cs, hS⟩ := sumRes_is xs
  have hcW : ∀ W : World, Below w.heap.size w W → ∀ k, k < ln → W.cell? ⟨b, off + k, none⟩ = some (.int .i64 (xs.getD k 0)) := fun W hB k hk => (hB.cell (p := ⟨b, off + k, none⟩) (by rcases hat with h | h; omega; exact h.2)).trans (hc k hk)
  have ha : ln = 0 ∨ la = some ⟨b, off, none⟩ := by rcases hat with h | h; exact .inl h; exact .inr h.1
  refine su ah al bh bl n x0 x1 cx p0 p1 cp t0 t1 ct s0 s1 cs _ _ xs la ln lc w hl (hide ?_) (hide HX) (hide HY) (hide HP) (hide HQ) (hide HT) (hide HU) (hide ?_) (hide ?_) (hide fun W => wcmp_any ah al bh bl W all alu bll blu) (hide fun W => rcmp_any ah al bh bl W all alu bll blu) (hide fun W => clamp_any ah al W ahl all alu) (hide fun W => rclamp_any ah al W ahl all alu) (hide ?_)
  · intro W hB
    rcases hat with h0 | ⟨rfl, hb⟩
    · subst h0
      obtain rfl : xs = [] := List.eq_nil_of_length_eq_zero hn.symm
      exact copy_none la lc W hno
    · by_cases h0 : ln = 0
      · subst h0
        obtain rfl : xs = [] := List.eq_nil_of_length_eq_zero hn.symm
        exact copy_none _ lc W hno
      · exact copy_some xs b off ln lc W hn (by omega) hl (hcW W hB) (Nat.lt_of_lt_of_le hb hB.size)
  · intro g c W hg hgc
    refine (sum_any xs (some ⟨g, 0, none⟩) g 0 ln c W hn (by omega) hw (.inr rfl) hgc hg).mono ?_
    rintro e w' ⟨U, rfl, hU, hB⟩
    exact ⟨by rw [sumRes_one hU hS], hB⟩
  · intro W hB
    refine (rsum_any xs la b off ln lc W hn (by omega) hw ha (hcW W hB) (by rcases hat with h | h; exact .inl h; exact .inr (Nat.lt_of_lt_of_le h.2 hB.size))).mono ?_
    rintro e w' ⟨U, rfl, hU, hB⟩
    exact ⟨by rw [sumRes_one hU hS], hB⟩
  · intro g c W hg hgc hB
    exact same_any xs (some ⟨g, 0, none⟩) la g 0 b off ln c lc W hl (.inr rfl) ha hgc (hcW W hB) (.inr hg) (by rcases hat with h | h; exact .inl h; exact .inr (Nat.lt_of_lt_of_le h.2 hB.size))
end WideW
end Go.Proofs.Ytcokhdajdnkinaa
