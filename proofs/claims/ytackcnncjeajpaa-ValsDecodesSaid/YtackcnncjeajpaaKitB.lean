/-
  The statements' own helpers on bytes: OverBytes, Pick.
-/
import Derived.Test.YtackcnncjeajpaaWirS
namespace Go.Proofs.Ytackcnncjeajpaa
namespace KitB
open Go.RowKit
open BlkM WirM WirS

theorem Own.set {w : World} {T : TypeId} {g n cap : Nat} {zs : List Int} (h : Own w T (.slice (some ⟨g, 0, none⟩) n cap) zs) (k : Nat) (hk : k < n) (x : Int) : Own (w.setCell ⟨g, k, none⟩ (.int .u8 x)) T (.slice (some ⟨g, 0, none⟩) n cap) (zs.set k x) := by
  obtain ⟨hl, ⟨h0, _⟩ | ⟨g', cap', cur, e, hb, hg, h1, h2, h3, h4⟩⟩ := h
  · cases h0
  · obtain ⟨rfl, rfl, rfl⟩ : g = g' ∧ n = zs.length ∧ cap = cap' := by cases e; exact ⟨rfl, rfl, rfl⟩
    refine ⟨by rw [b8_len]; omega, .inr ⟨g, cap, cur.setIfInBounds k (.int .u8 x), by rw [List.length_set], hb, ?_, by rw [List.length_set]; exact h1, h2, by rw [Array.size_setIfInBounds]; exact h3, ?_⟩⟩
    · rw [heap_setCell_same w g k _ T _ hg]
    · rw [List.length_set, ← b8_set, ← h4]
      simp [List.take_set]
theorem Own.cell {w : World} {T : TypeId} {g n cap : Nat} {zs : List Int} (h : Own w T (.slice (some ⟨g, 0, none⟩) n cap) zs) (k : Nat) (hk : k < n) : w.cell? ⟨g, k, none⟩ = some (.int .u8 (zs.getD k 0)) ∧ w.frozen? ⟨g, k, none⟩ = false := by
  obtain ⟨hl, ⟨h0, _⟩ | ⟨g', cap', cur, e, hb, hg, h1, h2, h3, h4⟩⟩ := h
  · cases h0
  · obtain ⟨rfl, rfl, rfl⟩ : g = g' ∧ n = zs.length ∧ cap = cap' := by cases e; exact ⟨rfl, rfl, rfl⟩
    have h5 := b8_get zs k hk
    rw [← h4, List.getElem?_take, if_pos (by omega)] at h5
    refine ⟨?_, by simp [World.frozen?, hg]⟩
    simp only [World.cell?, hg]
    simpa using h5
def MidO (w : World) (T : TypeId) (v : Value) (n : Nat) (i : Value) (U : World) : Prop := ∃ (k : Nat) (ys : List Int), k ≤ n ∧ i = .int .i64 (k : Int) ∧ ys.length = n ∧ Own U T v ys ∧ Fr (fun k => v.ownBlock = some k) w U
set_option maxHeartbeats 1000000 in
/-- Bytes are written over: only they. -/
theorem over_any (w : World) (a : Option Addr) (n c : Nat) (zs : List Int) (h : Own w 5 (.slice a n c) zs) (hn : n ≤ 1099511627776) :
    Calls Try.prog 23 #[.slice a n c] w fun e w' => e = .returned (.tuple #[]) ∧ (∃ ys, ys.length = n ∧ Own w' 5 (.slice a n c) ys) ∧ Fr (fun k => (Value.slice a n c).ownBlock = some k) w w' := by
  have hl : zs.length = n := by obtain ⟨_, _, e, _⟩ := h.bin; cases e; rfl
  by_cases h0 : n = 0
  · subst h0
    have HH := WirS.hide h
    have HL := WirS.hide hl
    clear h hl
    go_enter Try.func23, Try.ntmps23
    go_wp2_with fail
    refine wp_loop_rounds 1 ?_
    rw [rounds_succ]
    go_wp2_with fail
    first | go_end0 | refine bodyPost_ret (results_none rfl _ _ _) rfl ?_
    exact ⟨rfl, ⟨zs, HL.out, HH.out⟩, Fr.refl _ _⟩
  · obtain ⟨g, rfl⟩ : ∃ g, a = some ⟨g, 0, none⟩ := by
      obtain ⟨_, ⟨e, _⟩ | ⟨g, _, _, e, _⟩⟩ := h
      · cases e; exact absurd rfl h0
      · cases e; exact ⟨g, rfl⟩
    have HH := WirS.hide h
    have HL := WirS.hide hl
    clear h hl
    go_enter Try.func23, Try.ntmps23
    go_wp2_with fail
    go_loopw [2] (fun i wr => MidO w 5 (.slice (some ⟨g, 0, none⟩) n c) n i wr) (fun i _ => n - (intOf i).toNat)
    case atStart => exact ⟨0, zs, Nat.zero_le _, rfl, HL.out, HH.out, Fr.refl _ _⟩
    case round =>
      obtain ⟨k, ys, hk, rfl, hy, ho, hf⟩ := hrel
      by_cases hlt : k < n
      · obtain ⟨ck, fk⟩ := Own.cell ho k hlt
        have HO := WirS.hide ho
        have HF := WirS.hide hf
        have HY := WirS.hide hy
        generalize ys.getD k 0 = x at ck
        clear ho hf hy
        go_wp2_with fail
        go_roundw
        case rel => exact ⟨k + 1, ys.set k (bits .xor .u8 x 165), by omega, by go_num, by rw [List.length_set]; exact HY.out, Own.set HO.out k hlt _, HF.out.setCell g k _ (fun _ => rfl)⟩
        case measure => simp [intOf]; omega
      · have HO := WirS.hide ho
        have HF := WirS.hide hf
        have HY := WirS.hide hy
        clear ho hf hy
        go_wp2_with fail
        first | go_end0 | refine bodyPost_ret (results_none rfl _ _ _) rfl ?_
        exact ⟨rfl, ⟨ys, HY.out, HO.out⟩, HF.out⟩
/-- A place among n. -/
def pick (i n : Int) : Int := if i.tmod n < 0 then i.tmod n + n else i.tmod n
theorem pick_range (i n : Int) (hn : 0 < n) : 0 ≤ pick i n ∧ pick i n < n := by
  have h1 := Int.tmod_lt_of_pos i hn
  have h2 : -n < i.tmod n := Int.neg_lt_of_neg_lt (by have := Int.tmod_lt_of_pos (-i) hn; rw [Int.neg_tmod] at this; exact this)
  unfold pick
  split <;> omega
theorem pick_any (w : World) (i n : Int) (hn : 0 < n) (hn2 : n ≤ 1099511627776) :
    Calls Try.prog 45 #[.int .i64 i, .int .i64 n] w fun e w' => e = .returned (.int .i64 (pick i n)) ∧ w = w' := by
  have hr := pick_range i n hn
  have hm : -n < i.tmod n ∧ i.tmod n < n := by
    have h1 := Int.tmod_lt_of_pos i hn
    have h2 : -n < i.tmod n := Int.neg_lt_of_neg_lt (by have := Int.tmod_lt_of_pos (-i) hn; rw [Int.neg_tmod] at this; exact this)
    exact ⟨h2, h1⟩
  have hn3 : ¬ n ≤ 0 := by omega
  have hn4 : (n == 0) = false := by simp; omega
  have hn5 : (n == -1) = false := by simp; omega
  unfold pick at hr ⊢
  have HR := WirS.hide hr
  clear hr
  generalize hq : i.tmod n = q at hm ⊢
  by_cases hneg : q < 0
  · rw [if_pos hneg]
    go_enter Try.func45, Try.ntmps45
    go_wp2
    go_ret
    exact ⟨rfl, rfl⟩
  · rw [if_neg hneg]
    go_enter Try.func45, Try.ntmps45
    go_wp2
    go_ret
    exact ⟨rfl, rfl⟩
end KitB
end Go.Proofs.Ytackcnncjeajpaa
