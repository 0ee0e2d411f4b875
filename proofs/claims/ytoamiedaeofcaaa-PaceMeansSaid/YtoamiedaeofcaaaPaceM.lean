/-
  Layer 2's law on means and the least one: PaceMeans.
-/
import Derived.Test.YtoamiedaeofcaaaPaceL
import Derived.OwnWalk
import Derived.OpenShut
namespace Go.Proofs.Ytoamiedaeofcaaa
namespace PaceM
open Go.RowKit Go.Shelf
open FltR FltC PaceA PaceB PaceC PaceD PaceE PaceG PaceF PaceK PaceL HexM

/-- A slice of floats that reads as a list of words. -/
def FloatsAt (base : Nat) (W : World) (v : Value) (n : Nat) (xs : List Nat) : Prop :=
  ∃ (a : Option Addr) (b cap : Nat), v = .slice a n cap ∧ (n = 0 ∨ a = some ⟨b, 0, none⟩) ∧ (∀ k, k < n → W.cell? ⟨b, 0 + k, none⟩ = some (.float .f64 (xs.getD k 0))) ∧ (n = 0 ∨ b < W.heap.size) ∧ base ≤ W.heap.size
theorem floats_below {base : Nat} {W W' : World} {v : Value} {n : Nat} {xs : List Nat} (h : FloatsAt base W v n xs) (hb : Below W.heap.size W W') : FloatsAt base W' v n xs := by
  obtain ⟨a, b, cap, h1, h2, h3, h4, h5⟩ := h
  have := hb.size
  refine ⟨a, b, cap, h1, h2, fun k hk => ?_, by omega, by omega⟩
  have hlt : b < W.heap.size := by omega
  exact (hb.cell (p := ⟨b, 0 + k, none⟩) hlt).trans (h3 k hk)
theorem floats_own {base : Nat} {W : World} {v : Value} {xs : List Nat} (h : W.ownsRow base 24 1 v xs.length (xs.map (Value.float .f64))) (hb : base ≤ W.heap.size) : FloatsAt base W v xs.length xs := by
  rcases h.2 with ⟨h1, h2⟩ | ⟨g, cap, cur, h1, h2, h3, h4, h5, h6, h7⟩
  · exact ⟨none, 0, 0, by rw [h1, h2], .inl h2, fun k hk => by omega, .inl h2, hb⟩
  · refine ⟨some ⟨g, 0, none⟩, g, cap, h1, .inr rfl, fun k hk => ?_, .inr ?_, hb⟩
    · have e : (cur.toList.take (xs.length * 1))[k]? = (xs.map (Value.float .f64))[k]? := by rw [h7]
      rw [List.getElem?_take, if_pos (by omega), List.getElem?_map, List.getElem?_eq_getElem hk] at e
      have e2 : cur[k]? = some (.float .f64 xs[k]) := by simpa using e
      simp [World.cell?, h3, e2, List.getElem?_eq_getElem hk]
    · have := h3
      rcases Nat.lt_or_ge g W.heap.size with l | l
      · exact l
      · rw [Array.getElem?_eq_none l] at this; cases this

theorem floats_own2 {base n : Nat} {W : World} {v : Value} {xs : List Nat} (hl : n = xs.length) (h : W.ownsRow base 24 1 v n (xs.map (Value.float .f64))) (hb : base ≤ W.heap.size) : FloatsAt base W v n xs := by
  subst hl
  exact floats_own h hb
theorem info_f : (Try.prog.info? 24).map (fun i => (i.zero, i.size, i.bytes)) = some (some (.float .f64 0), 1, 8) := by kernel_rfl

theorem take_snoc (xs : List Nat) (k : Nat) (h : k < xs.length) : xs.take (k + 1) = xs.take k ++ [xs.getD k 0] := by
  rw [List.take_succ_eq_append_getElem h]
  simp [List.getD, List.getElem?_eq_getElem h]

set_option maxHeartbeats 1000000 in
/-- law: paces. -/
theorem paces_any (xs : List Nat) (a : Option Addr) (b off n cap : Nat) (w : World) (hn : n = xs.length) (hn60 : n ≤ 60) (ha : n = 0 ∨ a = some ⟨b, off, none⟩) (hcell : ∀ k, k < n → w.cell? ⟨b, off + k, none⟩ = some (.int .u64 (xs.getD k 0 : Nat))) (hb : n = 0 ∨ b < w.heap.size) :
    Calls Try.prog 26 #[.slice a n cap] w fun e w' => ∃ v, e = .returned v ∧ FloatsAt w.heap.size w' v n xs ∧ Below w.heap.size w w' := by
  have HC := hide hcell
  have HBB := hide hb
  have HA := hide ha
  have HN := hide hn
  obtain ⟨i0, hi, hz0, hz1, hz2⟩ := info_parts info_f
  have HI := hide hi
  have HZ0 := hide hz0
  have HZ1 := hide hz1
  have HZ2 := hide hz2
  clear hcell ha hn hb hi hz0 hz1 hz2
  go_enter Try.func26, Try.ntmps26
  go_wp2_with fail
  go_loopw [3, 4] (fun v i wr => ∃ (k : Nat) (ao : Option Addr) (cv : Nat), k ≤ n ∧ i = .int .i64 k ∧ v = .slice ao k cv ∧ wr.ownsRow w.heap.size 24 1 v k ((xs.take k).map (Value.float .f64)) ∧ Below w.heap.size w wr) (fun _ i _ => n - (intOf i).toNat)
  case atStart => exact ⟨0, none, 0, by omega, rfl, rfl, World.ownsRow_nil _ _ _ _, Below.refl _ _⟩
  case round =>
    obtain ⟨k, ao, cv, hk, rfl, rfl, hown, hnx⟩ := hrel
    have hsize := hnx.size
    by_cases hlt : k < n
    · have hcl : wr.cell? ⟨b, off + k, none⟩ = some (.int .u64 (xs.getD k 0 : Nat)) := (hnx.cell (p := ⟨b, off + k, none⟩) (by have := HBB.out; show b < w.heap.size; omega)).trans (HC.out k hlt)
      obtain rfl : a = some ⟨b, off, none⟩ := by rcases HA.out with h | h; omega; exact h
      have HT := hide (take_snoc xs k (by have := HN.out; omega))
      obtain ⟨x, hx⟩ : ∃ x, x = xs.getD k 0 := ⟨_, rfl⟩
      rw [← hx] at hcl HT
      clear hx
      go_wp2_with fail
      refine (of_any x _).mono ?_
      rintro e w1 ⟨rfl, rfl⟩
      go_wp2_with (first
        | (at_builtin; refine wpList_append_own _ rfl _ _ 38 rfl w.heap.size 24 i0 (.float .f64 0) 1 8 Try.underlying38 HI.out HZ0.out HZ1.out HZ2.out rfl (by decide) _ _ _ rfl (hown.alloc _) ⟨wr.heap.size, 0, none⟩ 1 1 [.float .f64 x] rfl rfl (cell_one_new _ _ _) (fun x hx => by simp at hx; subst hx; rfl) (by unfold maxLen; omega) (by omega) (by simp; omega) ?_; intro v' w3 hown' hgrow3 hnil3))
      go_roundw
      case rel =>
        obtain ⟨g3, cap3, hv3⟩ : ∃ g3 cap3, v' = .slice (some ⟨g3, 0, none⟩) (k + 1) cap3 := by
          rcases hown'.2 with ⟨_, h⟩ | ⟨g3, cap3, _, h, _⟩
          · omega
          · exact ⟨g3, cap3, h⟩
        exact ⟨k + 1, some ⟨g3, 0, none⟩, cap3, by omega, by go_num, hv3, by rw [HT.out, List.map_append]; exact hown', (hnx.alloc hsize _).grown hgrow3 (by simp; omega) (fun q hq => (hown.lt q hq).1)⟩
      case measure => simp [intOf]; omega
    · obtain rfl : k = n := by omega
      have hl := HN.out
      rw [List.take_of_length_le (by omega)] at hown
      have HO := hide (floats_own2 hl hown hnx.size)
      clear hown hl
      go_wp2
      go_ret
      exact ⟨_, rfl, HO.out, hnx⟩
/-- What Mean, Least and their like ask of a slice. -/
theorem mean_at {W : World} {v : Value} {n base : Nat} {xs : List Nat} (h : FloatsAt base W v n xs) (hn : n = xs.length) (h60 : n ≤ 60) (hw : ∀ k, xs.getD k 0 < 18446744073709551616) : Calls Try.prog 27 #[v] W (MnP W xs n) := by
  obtain ⟨a, b, cap, rfl, h2, h3, h4, _⟩ := h
  exact mean_any xs a b 0 n cap W hn (by omega) hw h2 h3 h4
theorem rmean_at {W : World} {v : Value} {n base : Nat} {xs : List Nat} (h : FloatsAt base W v n xs) (hn : n = xs.length) (h60 : n ≤ 60) (hw : ∀ k, xs.getD k 0 < 18446744073709551616) : Calls Try.prog 28 #[v] W (MnP W xs n) := by
  obtain ⟨a, b, cap, rfl, h2, h3, h4, _⟩ := h
  exact rmean_any xs a b 0 n cap W hn (by omega) hw h2 h3 h4
theorem least_at {W : World} {v : Value} {n base : Nat} {xs : List Nat} (h : FloatsAt base W v n xs) (hn : n = xs.length) (h60 : n ≤ 60) (hw : ∀ k, xs.getD k 0 < 18446744073709551616) : Calls Try.prog 29 #[v] W fun e w' => e = .returned (.int .i64 (leastTo xs n)) ∧ Below W.heap.size W w' := by
  obtain ⟨a, b, cap, rfl, h2, h3, h4, _⟩ := h
  exact least_any xs a b 0 n cap W hn (by omega) hw h2 h3 h4
theorem rleast_at {W : World} {v : Value} {n base : Nat} {xs : List Nat} (h : FloatsAt base W v n xs) (hn : n = xs.length) (h60 : n ≤ 60) (hw : ∀ k, xs.getD k 0 < 18446744073709551616) : Calls Try.prog 30 #[v] W fun e w' => e = .returned (.int .i64 (leastTo xs n)) ∧ Below W.heap.size W w' := by
  obtain ⟨a, b, cap, rfl, h2, h3, h4, _⟩ := h
  refine (rleast_any xs a b 0 n cap W hn (by omega) hw h2 h3 h4).mono ?_
  rintro e w' ⟨h, m, hm⟩
  exact ⟨h, below_of hm⟩
/-- A slice of words that reads as a list. -/
def WordsAt (W : World) (v : Value) (n : Nat) (xs : List Nat) : Prop :=
  ∃ (a : Option Addr) (b off cap : Nat), v = .slice a n cap ∧ (n = 0 ∨ a = some ⟨b, off, none⟩) ∧ (∀ k, k < n → W.cell? ⟨b, off + k, none⟩ = some (.int .u64 (xs.getD k 0 : Nat))) ∧ (n = 0 ∨ b < W.heap.size)
theorem words_below {W W' : World} {v : Value} {n : Nat} {xs : List Nat} (h : WordsAt W v n xs) (hb : Below W.heap.size W W') : WordsAt W' v n xs := by
  obtain ⟨a, b, off, cap, h1, h2, h3, h4⟩ := h
  have := hb.size
  refine ⟨a, b, off, cap, h1, h2, fun k hk => ?_, by omega⟩
  have hlt : b < W.heap.size := by omega
  exact (hb.cell (p := ⟨b, off + k, none⟩) hlt).trans (h3 k hk)
theorem paces_at {W : World} {v : Value} {n : Nat} {xs : List Nat} (h : WordsAt W v n xs) (hn : n = xs.length) (h60 : n ≤ 60) : Calls Try.prog 26 #[v] W fun e w' => ∃ u, e = .returned u ∧ FloatsAt W.heap.size w' u n xs ∧ Below W.heap.size W w' := by
  obtain ⟨a, b, off, cap, rfl, h2, h3, h4⟩ := h
  exact paces_any xs a b off n cap W hn h60 h2 h3 h4

set_option maxRecDepth 100000 in
set_option maxHeartbeats 2000000 in
theorem means_short (xs : List Nat) (a : Option Addr) (n cap : Nat) (w : World) (hn : n = xs.length) (h60 : n ≤ 60) (hw : ∀ k, xs.getD k 0 < 18446744073709551616) (hv : WordsAt w (.slice a n cap) n xs) :
    Calls Try.prog 5 #[.slice a n cap] w fun e w' => e = .returned (.bool true) ∧ Below w.heap.size w w' := by
  have HN := hide hn
  have H6 := hide h60
  have HW := hide hw
  have HV := hide hv
  have K := hide awake_any
  have hB := Below.refl w.heap.size w
  have ss : decide (60 < (n : Int)) = false := by simp; omega
  have ss2 : ¬ 60 < n := by omega
  have tl : (leastTo xs n == leastTo xs n) = true := by simp
  generalize hL : leastTo xs n = L at tl
  have HL := hide hL
  clear hn h60 hw hv hL
  go_enter Try.func5, Try.ntmps5
  go_wp2_with fail
  refine (paces_at HV.out HN.out H6.out).mono ?_
  rintro e w1 ⟨u, rfl, hu, hb⟩
  have hB := chain hB hb
  have HV1 := hide (words_below HV.out hb)
  have HU1 := hide hu
  clear hb hu
  go_wp2_with fail
  refine (mean_at HU1.out HN.out H6.out HW.out).mono ?_
  rintro e w2 ⟨z1, rfl, hz1, _, m1, hm1⟩
  have hb := below_of hm1
  have hB := chain hB hb
  have HV2 := hide (words_below HV1.out hb)
  have HU2 := hide (floats_below HU1.out hb)
  have HZ1 := hide hz1
  clear hb hm1 hz1
  go_wp2_with fail
  refine (paces_at HV2.out HN.out H6.out).mono ?_
  rintro e w3 ⟨u2, rfl, hu2, hb⟩
  have hB := chain hB hb
  have HV3 := hide (words_below HV2.out hb)
  have HU3 := hide (floats_below HU2.out hb)
  have HX3 := hide hu2
  clear hb hu2
  go_wp2_with fail
  refine (rmean_at HX3.out HN.out H6.out HW.out).mono ?_
  rintro e w4 ⟨z2, rfl, hz2, _, m2, hm2⟩
  have hb := below_of hm2
  have hB := chain hB hb
  have HV4 := hide (words_below HV3.out hb)
  have HU4 := hide (floats_below HU3.out hb)
  have HZ2 := hide (HZ1.out.trans hz2.symm)
  clear hb hm2 hz2
  go_wp2_with fail
  refine (same_any z1 z2 _ HZ2.out).mono ?_
  rintro e w5 ⟨rfl, rfl⟩
  go_wp2_with fail
  refine (least_at HU4.out HN.out H6.out HW.out).mono ?_
  rw [HL.out]
  rintro e w5 ⟨rfl, hb⟩
  have hB := chain hB hb
  have HV5 := hide (words_below HV4.out hb)
  have HU5 := hide (floats_below HU4.out hb)
  clear hb
  go_wp2_with fail
  refine (paces_at HV5.out HN.out H6.out).mono ?_
  rintro e w6 ⟨u3, rfl, hu3, hb⟩
  have hB := chain hB hb
  have HV6 := hide (words_below HV5.out hb)
  have HU6 := hide (floats_below HU5.out hb)
  have HX6 := hide hu3
  clear hb hu3
  go_wp2_with fail
  refine (rleast_at HX6.out HN.out H6.out HW.out).mono ?_
  rw [HL.out]
  rintro e w7 ⟨rfl, hb⟩
  have hB := chain hB hb
  have HV7 := hide (words_below HV6.out hb)
  have HU7 := hide (floats_below HU6.out hb)
  clear hb
  clear HV HV1 HV2 HV3 HV4 HV5 HV6 HU1 HU2 HU3 HU4 HU5 HU6 HX3 HX6 HZ1 HZ2
  obtain ⟨ua, ub, ucap, rfl, g2, g3, g4, _⟩ := HU7.out
  obtain ⟨va, vb, voff, vcap, ve, f2, f3, f4⟩ := HV7.out
  obtain ⟨rfl, rfl⟩ : va = a ∧ vcap = cap := by injection ve with e1 e2 e3; exact ⟨e1.symm, e3.symm⟩
  have G2 := hide g2
  have G3 := hide g3
  have F2 := hide f2
  have F3 := hide f3
  clear g2 g3 g4 f2 f3 f4 HU7 HV7 ve
  go_wp2_with fail
  go_loopw [4, 5] (fun f i wr => ∃ k m : Nat, k ≤ n ∧ i = .int .i64 (k : Int) ∧ f = .bool true ∧ wr = w7.drewN m) (fun _ i _ => n - (intOf i).toNat)
  case atStart => exact ⟨0, 0, by omega, rfl, rfl, rfl⟩
  case round =>
    obtain ⟨k, m, hk, rfl, rfl, hwr⟩ := hrel
    have HWR := hide hwr
    by_cases hlt : k < n
    · have c1 := G3.out k hlt
      rw [show w7.cell? ⟨ub, 0 + k, none⟩ = wr.cell? ⟨ub, 0 + k, none⟩ by rw [hwr]; rfl] at c1
      have c2 := F3.out k hlt
      rw [show w7.cell? ⟨vb, voff + k, none⟩ = wr.cell? ⟨vb, voff + k, none⟩ by rw [hwr]; rfl] at c2
      obtain rfl : ua = some ⟨ub, 0, none⟩ := by rcases G2.out with h | h; omega; exact h
      obtain rfl : va = some ⟨vb, voff, none⟩ := by rcases F2.out with h | h; omega; exact h
      obtain ⟨x, hx⟩ : ∃ x, x = xs.getD k 0 := ⟨_, rfl⟩
      rw [← hx] at c1 c2
      rw [Nat.zero_add] at c1
      have b1 : (k : Int) < (n : Int) := by omega
      have fb := fbits x
      have tx : ((x : Int) == (x : Int)) = true := by simp
      have OF := hide (of_any x)
      clear hx hwr
      go_wp2_with fail
      go_quiet ((go_at_call 12; exact Calls.quiet_of_same ((OF.out _).mono fun _ _ ⟨h, k⟩ => ⟨h, k.symm⟩)))
      go_wp2
      go_roundw
      case rel => exact ⟨k + 1, _, by omega, by go_num, rfl, by rw [HWR.out, World.drewN_drewN]⟩
      case measure => simp [intOf]; omega
    · obtain rfl : k = n := by omega
      have hB := chain hB (below_of hwr)
      clear hwr
      go_wp2_with fail
      refine (K.out _).mono ?_
      rintro e w8 ⟨rfl, hb⟩
      have hB := chain hB hb
      clear hb
      go_wp2
      go_ret
      exact ⟨rfl, hB⟩
set_option maxHeartbeats 1000000 in
theorem means_long (a : Option Addr) (n cap : Nat) (w : World) (h60 : ¬ n ≤ 60) :
    Calls Try.prog 5 #[.slice a n cap] w fun e w' => e = .returned (.bool true) ∧ Below w.heap.size w w' := by
  have K := hide awake_any
  have hB := Below.refl w.heap.size w
  have ss : decide (60 < (n : Int)) = true := by simp; omega
  have ss2 : 60 < n := by omega
  clear h60
  go_enter Try.func5, Try.ntmps5
  go_wp2_with fail
  refine (K.out _).mono ?_
  rintro e w1 ⟨rfl, hb⟩
  have hB := chain hB hb
  clear hb
  go_wp2
  go_ret
  exact ⟨rfl, hB⟩

/-- A slice of words that came in. -/
def WIn (W : World) (a : Option Addr) (len cap : Nat) (xs : List Nat) : Prop := len = xs.length ∧ (∀ k, xs.getD k 0 < 18446744073709551616) ∧ WordsAt W (.slice a len cap) len xs
theorem w_nil (W : World) : WIn W none 0 0 [] := ⟨rfl, fun k => by simp, none, 0, 0, 0, rfl, .inl rfl, fun k hk => absurd hk (by omega), .inl rfl⟩
theorem w_some (W : World) (x : Addr) (l c : Nat) (zs : List Int) (hl : l ≤ c) (hz : zs.length = c) (hcell : ∀ i, i < zs.length → W.cell? (x.add i) = some (.int .u64 (zs.getD i 0))) (hwz : ∀ n ∈ zs, (Lit.int .u64 n).wf = true) : WIn W (some x) l c ((zs.take l).map Int.toNat) := by
  have hw : ∀ k (hk : k < zs.length), 0 ≤ zs[k] ∧ zs[k] < 18446744073709551616 := by
    intro k hk
    have := hwz _ (List.getElem_mem hk)
    simp [Lit.wf, IntKind.min, IntKind.max, IntKind.signed, IntKind.bits] at this
    omega
  refine ⟨(by simp; omega), (fun k => ?_), ?_⟩
  · by_cases hk : k < l
    · have := hw k (by omega)
      simp [List.getD, List.getElem?_map, List.getElem?_take_of_lt hk, List.getElem?_eq_getElem (show k < zs.length by omega)]
      omega
    · rw [List.getD, List.getElem?_eq_none (by simp; omega)]
      simp
  · by_cases h0 : l = 0
    · exact ⟨some x, 0, 0, c, rfl, .inl h0, fun k hk => absurd hk (by omega), .inl h0⟩
    · obtain ⟨b, off, rfl, hc⟩ := Go.ints_at hcell (by omega)
      refine ⟨_, b, off, c, rfl, .inr rfl, fun k hk => ?_, .inr ?_⟩
      · have h1 := hw k (by omega)
        rw [hc k (by omega)]
        simp [List.getD, List.getElem?_map, List.getElem?_take_of_lt hk, List.getElem?_eq_getElem (show k < zs.length by omega)]
        omega
      · have := hc 0 (by omega)
        unfold World.cell? at this
        dsimp only at this
        split at this
        · rename_i h
          exact (Array.getElem?_eq_some_iff.mp h).1
        · cases this
theorem means_any (w : World) (a : Option Addr) (n cap : Nat) (xs : List Nat) (h : WIn w a n cap xs) :
    Calls Try.prog 5 #[.slice a n cap] w fun e w' => e = .returned (.bool true) ∧ Below w.heap.size w w' := by
  by_cases h60 : n ≤ 60
  · exact means_short xs a n cap w h.1 h60 h.2.1 h.2.2
  · exact means_long a n cap w h60
end PaceM
end Go.Proofs.Ytoamiedaeofcaaa
