/-
  BlakeKnown walked.
-/
import Derived.Test.YtmdikdcbphogcaaDoorBlkU
namespace Go.Proofs.YtmdikdcbphogcaaDoor
namespace BlkS
open Go.RowKit
open BlkM BlkA BlkG BlkI BlkJ BlkK BlkL BlkO BlkP BlkQ BlkR BlkU

/-! ### A state's methods, in the form that the statements want -/
theorem swr_any (w : World) (S : Nat) (l zs : List Int) (v : Value) (h : St w S l) (hb : BAt w S v zs) (hr : rng zs) (hg : Glob w) (hlen : l.length + zs.length < 4611686018427387904) :
    Calls Tryd.prog 23 #[.pointer (some ⟨S, 0, none⟩), v] w fun e w' => e = .returned (.int .i64 0) ∧ St w' S (l ++ zs) ∧ ∃ cs, Chg w S cs w' := by
  refine (swrite_any w S l zs v h hb hr hg hlen).mono ?_
  rintro e w' ⟨rfl, c', hDg, hC⟩
  obtain ⟨h0, c, _, hA⟩ := h
  exact ⟨rfl, ⟨h0, c', hDg, hC.at hA⟩, _, hC⟩
theorem bat_new (u : World) (S : Nat) (l : List Int) (fr : Nat × Nat) (hS : S < u.heap.size) : BAt (u.alloc (.cells (b8 l).toArray 5 fr)) S (.slice (some ⟨u.heap.size, 0, none⟩) l.length l.length) l :=
  ⟨_, l.length, rfl, Nat.le_refl _, fun _ => ⟨u.heap.size, 0, rfl, by omega, by simp, fun i hi => by
    have : (u.alloc (.cells (b8 l).toArray 5 fr)).heap[u.heap.size]? = some (.cells (b8 l).toArray 5 fr) := by
      show (u.heap.push _)[u.heap.size]? = _
      simp
    have h2 := b8_get l i hi
    simp only [World.cell?, this, Nat.zero_add]
    simpa using h2⟩⟩

def repA (k : Nat) : ByteArray := ⟨(List.replicate k 65).toArray⟩
theorem repA_size (k : Nat) : (repA k).size = k := by simp [repA, ByteArray.size]
theorem repA_next (k : Nat) : repA k ++ (⟨#[65]⟩ : ByteArray) = repA (k + 1) := by
  unfold repA
  apply ByteArray.ext
  apply Array.ext'
  simp [List.replicate_succ']
set_option maxHeartbeats 400000 in
theorem times_any (w : World) : Calls Tryd.prog 26 #[.string ⟨#[65]⟩, .int .i64 64] w fun e w' => e = .returned (.string (repA 64)) ∧ w = w' := by
  go_enter Tryd.func26, Tryd.ntmps26
  go_wp2_with fail
  go_loop [5, 6] (fun o i => ∃ k : Nat, k ≤ 64 ∧ i = .int .i64 (k : Int) ∧ o = .string (repA k)) (fun _ i => 64 - (intOf i).toNat)
  case atStart => exact ⟨0, by omega, rfl, rfl⟩
  case round =>
    obtain ⟨k, hk, rfl, rfl⟩ := hrel
    by_cases hlt : k < 64
    · obtain ⟨o, ho⟩ : ∃ o, o = repA k := ⟨_, rfl⟩
      have hs : o.size ≤ 64 := by rw [ho, repA_size]; exact hk
      have hn : o ++ (⟨#[65]⟩ : ByteArray) = repA (k + 1) := by rw [ho, repA_next]
      have HN := hide hn
      rw [← ho]
      clear hn ho
      go_wp2_with fail
      go_round
      case rel => exact ⟨k + 1, by omega, by go_num, by rw [HN.out]⟩
      case measure => simp [intOf]; omega
    · obtain rfl : k = 64 := by omega
      go_wp2
      go_ret
      exact ⟨rfl, rfl⟩
theorem not_ok (k : Nat) : ¬ okS (repA k) := by
  rintro ⟨hs, h⟩
  have h0 := h 0 (by omega)
  rw [repA_size] at hs
  subst hs
  revert h0
  decide +kernel
theorem not_ok0 : ¬ okS ⟨#[]⟩ := by
  rintro ⟨hs, _⟩
  exact absurd hs (by decide)
def c1 : List Int := 1 :: List.replicate 31 0
def c09 : List Int := 0 :: 9 :: List.replicate 30 0
theorem cmp19 : cmpI c1 c09 = 1 := by kernel_rfl

set_option maxRecDepth 10000 in
set_option maxHeartbeats 8000000 in
theorem known_any (w : World) (hg : Glob w) : Calls Tryd.prog 6 #[] w fun e w' => e = .returned (.bool true) ∧ Below w.heap.size w w' := by
  have HG := hide hg
  obtain ⟨X1, hX1⟩ : ∃ X, X = sumL [97, 98, 99] := ⟨_, rfl⟩
  have l1 : X1.length = 32 := by rw [hX1]; exact sumL_len _
  have T1 := hide (fun W => text_any W X1 l1 (by rw [hX1]; exact sumL_range _))
  rw [show hashText X1 = ⟨#[53, 48, 56, 99, 53, 101, 56, 99, 51, 50, 55, 99, 49, 52, 101, 50, 101, 49, 97, 55, 50, 98, 97, 51, 52, 101, 101, 98, 52, 53, 50, 102, 51, 55, 52, 53, 56, 98, 50, 48, 57, 101, 100, 54, 51, 97, 50, 57, 52, 100, 57, 57, 57, 98, 52, 99, 56, 54, 54, 55, 53, 57, 56, 50]⟩ by rw [hX1]; exact abc_text] at T1
  have HX := hide hX1
  have HL1 := hide (show (b8 X1).length = 32 by rw [b8_len]; exact l1)
  have hc1 : ∀ u : World, (convert 22 22 (.slice (some ⟨u.heap.size, 0, none⟩) 1 1)).run Tryd.prog (u.alloc (.cells #[.int .u8 97] 5)) = .ok (.slice (some ⟨u.heap.size, 0, none⟩) 1 1) (u.alloc (.cells #[.int .u8 97] 5 (1, 2))) := fun u => BlkR.mark u #[.int .u8 97] 1 1
  have hc2 : ∀ u : World, (convert 22 22 (.slice (some ⟨u.heap.size, 0, none⟩) 2 2)).run Tryd.prog (u.alloc (.cells #[.int .u8 98, .int .u8 99] 5)) = .ok (.slice (some ⟨u.heap.size, 0, none⟩) 2 2) (u.alloc (.cells #[.int .u8 98, .int .u8 99] 5 (2, 3))) := fun u => BlkR.mark u #[.int .u8 98, .int .u8 99] 2 2
  clear hg hX1 l1
  go_enter Tryd.func6, Tryd.ntmps6
  go_wp2_with ((go_at_call 25; refine (new_any w HG.out).mono ?_; rintro e w1 ⟨S, rfl, hS, hSt, hB1⟩))
  have hS1 := hSt.lt
  have hb2 : Below w.heap.size w (w1.alloc (.cells #[.int .u8 97] 5 (1, 2))) := hB1.alloc hB1.size _
  have K1 := hide (swr_any (w1.alloc (.cells #[.int .u8 97] 5 (1, 2))) S [] [97] (.slice (some ⟨w1.heap.size, 0, none⟩) 1 1) (hSt.below (Below.alloc (Below.refl _ _) (Nat.le_refl w1.heap.size) _) hS1)
    (bat_new w1 S [97] (1, 2) hS1) (by intro x hx; simp at hx; omega) (HG.out.below hb2 HG.out.1) (by simp))
  have HS := hide hS
  have HB2 := hide hb2
  have hs1 : S < (w1.alloc (.cells #[.int .u8 97] 5 (1, 2))).heap.size := by rw [World.size_alloc]; omega
  have HS1 := hide hs1
  clear hSt hB1 hS hb2 hs1
  go_wp2_with ((go_at_call 23; (with_reducible refine (K1.out).mono ?_); rintro e w2 ⟨rfl, hSt2, cs2, hC2⟩))
  have hS2 := hSt2.lt
  have hB3 : Below w.heap.size w w2 := HB2.out.trans (hC2.below_of HS.out HB2.out.size)
  have hb4 : Below w.heap.size w (w2.alloc (.cells #[.int .u8 98, .int .u8 99] 5 (2, 3))) := hB3.alloc hB3.size _
  have K2 := hide (swr_any (w2.alloc (.cells #[.int .u8 98, .int .u8 99] 5 (2, 3))) S [97] [98, 99] (.slice (some ⟨w2.heap.size, 0, none⟩) 2 2) (hSt2.below (Below.alloc (Below.refl _ _) (Nat.le_refl w2.heap.size) _) hS2)
    (bat_new w2 S [98, 99] (2, 3) hS2) (by intro x hx; simp at hx; omega) (HG.out.below hb4 HG.out.1) (by simp))
  have HB4 := hide hb4
  clear hSt2 hB3 hC2 hb4 K1 HB2 HS1
  go_wp2_with ((go_at_call 23; (with_reducible refine (K2.out).mono ?_); rintro e w3 ⟨rfl, hSt3, cs3, hC3⟩))
  have hB5 : Below w.heap.size w w3 := HB4.out.trans (hC3.below_of HS.out HB4.out.size)
  have hSt3' : St w3 S [97, 98, 99] := hSt3
  have K3 := hide (slen_any w3 S [97, 98, 99] hSt3' (by simp))
  have K4 := hide (ssum_any w3 S [97, 98, 99] hSt3' (HG.out.below hB5 HG.out.1))
  rw [← HX.out] at K4
  have HB5 := hide hB5
  clear hSt3 hSt3' hC3 hB5 K2 HB4
  go_upto_region 4 with ((go_at_call 24; (with_reducible refine (K3.out).mono ?_); rintro e w4 ⟨rfl, rfl⟩))
  refine wp_region_lit ?_
  refine sV (.pointer (some ⟨S, 0, none⟩)) w3 (by kernel_rfl) (by kernel_rfl) ?_
  simp only [Act.put, List.setIfInBounds_toArray, List.set_cons_succ, List.set_cons_zero]
  refine sC (by kernel_rfl) (by kernel_rfl) K4.out ?_
  intro w5 hb5
  simp only [Act.put, List.setIfInBounds_toArray, List.set_cons_succ, List.set_cons_zero]
  refine sV (.tuple #[.agg (b8 X1).toArray, .int .i64 0]) w5 (by kernel_rfl) (by kernel_rfl) ?_
  simp only [Act.put, List.setIfInBounds_toArray, List.set_cons_succ, List.set_cons_zero]
  refine sV (.agg (b8 X1).toArray) w5 (by kernel_rfl) (by kernel_rfl) ?_
  simp only [Act.put, List.setIfInBounds_toArray, List.set_cons_succ, List.set_cons_zero]
  refine sV (.int .i64 0) w5 (by kernel_rfl) (by kernel_rfl) ?_
  simp only [Act.put, List.setIfInBounds_toArray, List.set_cons_succ, List.set_cons_zero]
  refine stepVal (v := .pointer (some ⟨w5.heap.size, 0, none⟩)) (w' := w5.alloc (.cells (b8 zH).toArray 26)) (by rfl) (alH _ _ rfl w5) ?_
  refine stepStore (by rfl) _ _ _ (by rfl) _ (b8 X1) (by kernel_rfl) (by kernel_rfl) (At.new w5 26 (b8 zH)) 32 (by kernel_rfl) (by rw [b8_len]; rfl) HL1.out (oneCells_b8 _) ?_
  obtain ⟨H, eH⟩ : ∃ H, H = w5.heap.size := ⟨_, rfl⟩
  obtain ⟨W6, eW6⟩ : ∃ X, X = (w5.alloc (.cells (b8 zH).toArray 26)).setRow w5.heap.size (b8 X1).toArray := ⟨_, rfl⟩
  have hA6 : At W6 H 26 (b8 X1) := by rw [eW6, eH]; exact (At.new w5 26 (b8 zH)).put _
  have hB6 : Below w.heap.size w W6 := by
    rw [eW6]
    have h5 := HB5.out.trans (hb5.mono HB5.out.size)
    exact Below.setRowOwn (h5.alloc h5.size _) h5.size _
  rw [← eW6, ← eH]
  have HA6 := hide hA6
  have HB6 := hide hB6
  clear eW6 eH hb5 hA6 hB6 K3 K4 HB5
  go_upto_region 5 with fail
  refine wp_region_lit ?_
  refine sC (by kernel_rfl) (by kernel_rfl) (read_any W6 ⟨#[]⟩ tNo (fun h => absurd h not_ok0) (fun _ => rfl)) ?_
  intro w7 hb7
  simp only [Act.put, List.setIfInBounds_toArray, List.set_cons_succ, List.set_cons_zero]
  refine sV (tNo) w7 (by kernel_rfl) (by kernel_rfl) ?_
  simp only [Act.put, List.setIfInBounds_toArray, List.set_cons_succ, List.set_cons_zero]
  refine sV (.agg (b8 zH).toArray) w7 (by kernel_rfl) (by kernel_rfl) ?_
  simp only [Act.put, List.setIfInBounds_toArray, List.set_cons_succ, List.set_cons_zero]
  refine sV (.int .i64 5) w7 (by kernel_rfl) (by kernel_rfl) ?_
  simp only [Act.put, List.setIfInBounds_toArray, List.set_cons_succ, List.set_cons_zero]
  refine stepVal (v := .pointer (some ⟨w7.heap.size, 0, none⟩)) (w' := w7.alloc (.cells (b8 zH).toArray 26)) (by rfl) (alH _ _ rfl w7) ?_
  refine stepStore (by rfl) _ _ _ (by rfl) _ (b8 zH) (by kernel_rfl) (by kernel_rfl) (At.new w7 26 (b8 zH)) 32 (by kernel_rfl) (by rw [b8_len]; rfl) (by rw [b8_len]; rfl) (oneCells_b8 _) ?_
  obtain ⟨W8, eW8⟩ : ∃ X, X = (w7.alloc (.cells (b8 zH).toArray 26)).setRow w7.heap.size (b8 zH).toArray := ⟨_, rfl⟩
  have hk8 : Below W6.heap.size W6 W8 := by
    rw [eW8]
    exact Below.setRowOwn (hb7.alloc hb7.size _) hb7.size _
  rw [← eW8]
  have HA8 := hide (HA6.out.below hk8 HA6.out.lt)
  have HB8 := hide (HB6.out.trans (hk8.mono HB6.out.size))
  clear eW8 hk8 hb7 HA6 HB6
  go_upto_region 6 with fail
  refine wp_region_lit ?_
  refine sC (v := .string (repA 64)) (R := fun w' => W8 = w') (by kernel_rfl) (by kernel_rfl) (times_any W8) ?_
  rintro w9 rfl
  simp only [Act.put, List.setIfInBounds_toArray, List.set_cons_succ, List.set_cons_zero]
  refine sC (by kernel_rfl) (by kernel_rfl) (read_any W8 (repA 64) tNo (fun h => absurd h (not_ok 64)) (fun _ => rfl)) ?_
  intro w9 hb9
  simp only [Act.put, List.setIfInBounds_toArray, List.set_cons_succ, List.set_cons_zero]
  refine sV (tNo) w9 (by kernel_rfl) (by kernel_rfl) ?_
  simp only [Act.put, List.setIfInBounds_toArray, List.set_cons_succ, List.set_cons_zero]
  refine sV (.agg (b8 zH).toArray) w9 (by kernel_rfl) (by kernel_rfl) ?_
  simp only [Act.put, List.setIfInBounds_toArray, List.set_cons_succ, List.set_cons_zero]
  refine sV (.int .i64 5) w9 (by kernel_rfl) (by kernel_rfl) ?_
  simp only [Act.put, List.setIfInBounds_toArray, List.set_cons_succ, List.set_cons_zero]
  refine stepVal (v := .pointer (some ⟨w9.heap.size, 0, none⟩)) (w' := w9.alloc (.cells (b8 zH).toArray 26)) (by rfl) (alH _ _ rfl w9) ?_
  refine stepStore (by rfl) _ _ _ (by rfl) _ (b8 zH) (by kernel_rfl) (by kernel_rfl) (At.new w9 26 (b8 zH)) 32 (by kernel_rfl) (by rw [b8_len]; rfl) (by rw [b8_len]; rfl) (oneCells_b8 _) ?_
  obtain ⟨W10, eW10⟩ : ∃ X, X = (w9.alloc (.cells (b8 zH).toArray 26)).setRow w9.heap.size (b8 zH).toArray := ⟨_, rfl⟩
  have hk10 : Below W8.heap.size W8 W10 := by
    rw [eW10]
    exact Below.setRowOwn (hb9.alloc hb9.size _) hb9.size _
  rw [← eW10]
  have HA10 := hide (HA8.out.below hk10 HA8.out.lt)
  have HB10 := hide (HB8.out.trans (hk10.mono HB8.out.size))
  clear eW10 hk10 hb9 HA8 HB8
  go_upto_region 7 with fail
  refine wp_region_lit ?_
  refine sC (by kernel_rfl) (by kernel_rfl) (awake_any W10 (HG.out.below HB10.out HG.out.1)) ?_
  intro w11 hb11
  simp only [Act.put, List.setIfInBounds_toArray, List.set_cons_succ, List.set_cons_zero]
  refine sV (.bool true) w11 (by kernel_rfl) (by kernel_rfl) ?_
  simp only [Act.put, List.setIfInBounds_toArray, List.set_cons_succ, List.set_cons_zero]
  refine sL (by kernel_rfl) _ _ (by rfl) _ (by kernel_rfl) (HA10.out.below hb11 HA10.out.lt) _ 32 Tryd.underlying26 rfl (by kernel_rfl) HL1.out ?_
  simp only [Act.put, List.setIfInBounds_toArray, List.set_cons_succ, List.set_cons_zero]
  refine sC (by kernel_rfl) (by kernel_rfl) (T1.out w11) ?_
  intro w12 hb12
  simp only [Act.put, List.setIfInBounds_toArray, List.set_cons_succ, List.set_cons_zero]
  refine sV (.bool true) w12 (by kernel_rfl) (by kernel_rfl) ?_
  simp only [Act.put, List.setIfInBounds_toArray, List.set_cons_succ, List.set_cons_zero]
  refine sV (.bool true) w12 (by kernel_rfl) (by kernel_rfl) ?_
  simp only [Act.put, List.setIfInBounds_toArray, List.set_cons_succ, List.set_cons_zero]
  refine sV (.bool true) w12 (by kernel_rfl) (by kernel_rfl) ?_
  simp only [Act.put, List.setIfInBounds_toArray, List.set_cons_succ, List.set_cons_zero]
  refine sV (.int .i64 0) w12 (by kernel_rfl) (by kernel_rfl) ?_
  simp only [Act.put, List.setIfInBounds_toArray, List.set_cons_succ, List.set_cons_zero]
  refine sV (.bool true) w12 (by kernel_rfl) (by kernel_rfl) ?_
  simp only [Act.put, List.setIfInBounds_toArray, List.set_cons_succ, List.set_cons_zero]
  refine sV (.bool true) w12 (by kernel_rfl) (by kernel_rfl) ?_
  simp only [Act.put, List.setIfInBounds_toArray, List.set_cons_succ, List.set_cons_zero]
  refine sV (.bool true) w12 (by kernel_rfl) (by kernel_rfl) ?_
  simp only [Act.put, List.setIfInBounds_toArray, List.set_cons_succ, List.set_cons_zero]
  refine sV (.int .i64 5) w12 (by kernel_rfl) (by kernel_rfl) ?_
  simp only [Act.put, List.setIfInBounds_toArray, List.set_cons_succ, List.set_cons_zero]
  refine sV (.bool true) w12 (by kernel_rfl) (by kernel_rfl) ?_
  simp only [Act.put, List.setIfInBounds_toArray, List.set_cons_succ, List.set_cons_zero]
  refine sV (.bool true) w12 (by kernel_rfl) (by kernel_rfl) ?_
  simp only [Act.put, List.setIfInBounds_toArray, List.set_cons_succ, List.set_cons_zero]
  refine sV (.bool true) w12 (by kernel_rfl) (by kernel_rfl) ?_
  simp only [Act.put, List.setIfInBounds_toArray, List.set_cons_succ, List.set_cons_zero]
  refine sV (.int .i64 5) w12 (by kernel_rfl) (by kernel_rfl) ?_
  simp only [Act.put, List.setIfInBounds_toArray, List.set_cons_succ, List.set_cons_zero]
  refine sV (.bool true) w12 (by kernel_rfl) (by kernel_rfl) ?_
  simp only [Act.put, List.setIfInBounds_toArray, List.set_cons_succ, List.set_cons_zero]
  refine sV (.bool true) w12 (by kernel_rfl) (by kernel_rfl) ?_
  simp only [Act.put, List.setIfInBounds_toArray, List.set_cons_succ, List.set_cons_zero]
  refine sV (.bool true) w12 (by kernel_rfl) (by kernel_rfl) ?_
  simp only [Act.put, List.setIfInBounds_toArray, List.set_cons_succ, List.set_cons_zero]
  refine sV (.agg (b8 c1).toArray) w12 (by kernel_rfl) (by kernel_rfl) ?_
  simp only [Act.put, List.setIfInBounds_toArray, List.set_cons_succ, List.set_cons_zero]
  refine sV (.agg (b8 c09).toArray) w12 (by kernel_rfl) (by kernel_rfl) ?_
  simp only [Act.put, List.setIfInBounds_toArray, List.set_cons_succ, List.set_cons_zero]
  refine sC (by kernel_rfl) (by kernel_rfl) (compare_any w12 c1 c09 rfl rfl) ?_
  intro w13 hb13
  simp only [Act.put, List.setIfInBounds_toArray, List.set_cons_succ, List.set_cons_zero]
  rw [cmp19]
  refine sV (.bool true) w13 (by kernel_rfl) (by kernel_rfl) ?_
  simp only [Act.put, List.setIfInBounds_toArray, List.set_cons_succ, List.set_cons_zero]
  refine sV (.bool true) w13 (by kernel_rfl) (by kernel_rfl) ?_
  simp only [Act.put, List.setIfInBounds_toArray, List.set_cons_succ, List.set_cons_zero]
  have HF := hide (show Below w.heap.size w w13 by
    have h1 := HB10.out.trans (hb11.mono HB10.out.size)
    have h2 := h1.trans (hb12.mono h1.size)
    exact h2.trans (hb13.mono h2.size))
  clear hb11 hb12 hb13 HA10 HB10
  go_wp2_with fail
  go_ret
  exact ⟨rfl, HF.out⟩
end BlkS
end Go.Proofs.YtmdikdcbphogcaaDoor
