/-
  Layer 2's laws on forms and texts: PaceForms, PaceBack.
-/
import Derived.Test.YtoamiedaeofcaaaPaceL
namespace Go.Proofs.Ytoamiedaeofcaaa
namespace PaceP
open Go.RowKit Go.Shelf
open FltR FltC PaceA PaceB PaceC PaceD PaceE PaceG PaceF PaceK PaceL HexM

theorem read_any (s : ByteArray) (w : World) : Calls Try.prog 15 #[.string s] w fun e w' => e = .returned (rdS s) ∧ w = w' := by
  unfold rdS
  by_cases h : s.size = 16
  · rw [if_pos h]; exact read_16 s w h
  · rw [if_neg h]; exact read_short s w h
theorem rread_any (s : ByteArray) (w : World) : Calls Try.prog 16 #[.string s] w fun e w' => e = .returned (rdS s) ∧ ∃ n, w' = w.drewN n := by
  unfold rdS
  by_cases h : s.size = 16
  · rw [if_pos h]; exact rread_16 s w h
  · rw [if_neg h]; exact rread_short s w h
theorem readV_is : ∀ R : Option Nat, ∃ x e : Nat, readV R = .tuple #[.float .f64 x, .int .i64 (e : Int)]
  | none => ⟨0, 5, rfl⟩
  | some n => ofV_is n
theorem rdS_is (s : ByteArray) : ∃ x e : Nat, rdS s = .tuple #[.float .f64 x, .int .i64 (e : Int)] := by
  unfold rdS
  split
  · exact readV_is _
  · exact ⟨0, 5, rfl⟩

set_option maxRecDepth 100000 in
set_option maxHeartbeats 2000000 in
theorem forms_short (n : Nat) (s : ByteArray) (w : World) (hn : n < 18446744073709551616) (hs : s.size ≤ 40) :
    Calls Try.prog 3 #[.int .u64 (n : Int), .string s] w fun e w' => e = .returned (.bool true) ∧ Below w.heap.size w w' := by
  have A := fun W => pof_any n W
  have A' := fun W => rof_any n W
  have C := fun W => read_any s W
  have C' := fun W => rread_any s W
  obtain ⟨x1, e1, r1⟩ := ofV_is n
  obtain ⟨x2, e2, r2⟩ := rdS_is s
  rw [r1] at A A'
  rw [r2] at C C'
  have HA := hide A
  have HA' := hide A'
  have HC := hide C
  have HC' := hide C'
  have K := hide awake_any
  have HX := hide (fun W => text_any n W hn)
  have HX' := hide (fun W => rtext_any n W hn)
  have HY := hide (bits_any n)
  have HY' := hide (rbits_any n)
  have hB := Below.refl w.heap.size w
  have ss : decide (40 < (s.size : Int)) = false := by simp; omega
  have ss2 : ¬ 40 < s.size := by omega
  generalize hexText (canon n) = hx at *
  generalize canon n = cn at *
  have t1 : ((cn : Int) == (cn : Int)) = true := by simp
  have t2 : ((e1 : Int) == (e1 : Int)) = true := by simp
  have t3 : ((e2 : Int) == (e2 : Int)) = true := by simp
  have t4 : (hx.toList == hx.toList) = true := by simp
  clear A A' C C' r1 r2 hn hs
  go_enter Try.func3, Try.ntmps3
  go_wp2_with fail
  refine (of_any n _).mono ?_
  rintro e w1 ⟨rfl, rfl⟩
  go_wp2_with fail
  refine (HA.out _).mono ?_
  rintro e w1 ⟨rfl, rfl⟩
  go_wp2_with fail
  refine (HA'.out _).mono ?_
  rintro e w1 ⟨rfl, rfl⟩
  go_wp2_with fail
  refine (HC.out _).mono ?_
  rintro e w1 ⟨rfl, rfl⟩
  go_wp2_with fail
  refine (HC'.out _).mono ?_
  rintro e w1 ⟨rfl, hq⟩
  obtain ⟨qn, hq⟩ := hq
  have hB := chain hB (below_of hq)
  clear hq
  go_wp2_with fail
  refine (HY.out _).mono ?_
  rintro e w1 ⟨rfl, rfl⟩
  go_wp2_with fail
  refine (HY'.out _).mono ?_
  rintro e w1 ⟨rfl, rfl⟩
  go_wp2_with fail
  refine (HX.out _).mono ?_
  rintro e w1 ⟨rfl, hb⟩
  have hB := chain hB hb
  clear hb
  go_wp2_with fail
  refine (HX'.out _).mono ?_
  rintro e w1 ⟨rfl, rfl⟩
  go_wp2_with fail
  refine (same_any x1 x1 _ rfl).mono ?_
  rintro e w1 ⟨rfl, rfl⟩
  go_wp2_with fail
  refine (same_any x2 x2 _ rfl).mono ?_
  rintro e w1 ⟨rfl, rfl⟩
  go_wp2_with fail
  refine (K.out _).mono ?_
  rintro e w1 ⟨rfl, hb⟩
  have hB := chain hB hb
  clear hb
  go_wp2
  go_ret
  exact ⟨rfl, hB⟩

set_option maxHeartbeats 1000000 in
theorem forms_long (n : Nat) (s : ByteArray) (w : World) (hs : ¬ s.size ≤ 40) :
    Calls Try.prog 3 #[.int .u64 (n : Int), .string s] w fun e w' => e = .returned (.bool true) ∧ Below w.heap.size w w' := by
  have K := hide awake_any
  have hB := Below.refl w.heap.size w
  have ss : decide (40 < (s.size : Int)) = true := by simp; omega
  have ss2 : 40 < s.size := by omega
  clear hs
  go_enter Try.func3, Try.ntmps3
  go_wp2_with fail
  refine (K.out _).mono ?_
  rintro e w1 ⟨rfl, hb⟩
  have hB := chain hB hb
  clear hb
  go_wp2
  go_ret
  exact ⟨rfl, hB⟩
theorem forms_any (n : Nat) (s : ByteArray) (w : World) (hn : n < 18446744073709551616) :
    Calls Try.prog 3 #[.int .u64 (n : Int), .string s] w fun e w' => e = .returned (.bool true) ∧ Below w.heap.size w w' := by
  by_cases h : s.size ≤ 40
  · exact forms_short n s w hn h
  · exact forms_long n s w h

/-! ### PaceBack -/
theorem ofV_canon (n : Nat) : ofV (canon n) = .tuple #[.float .f64 (canon n), .int .i64 0] := by
  unfold ofV
  rw [if_pos (canon_canon n)]
theorem rdS_text (n : Nat) (hn : n < 18446744073709551616) : rdS (hexText (canon n)) = .tuple #[.float .f64 (canon n), .int .i64 0] := by
  unfold rdS
  rw [if_pos (text_size _), rd_text _ (canon_lt hn)]
  exact ofV_canon n
/-- What Of answers, one way or the other. -/
theorem ofV_ways (n : Nat) : (ofV n = .tuple #[.float .f64 n, .int .i64 0] ∧ canon n = n) ∨ ofV n = .tuple #[.float .f64 0, .int .i64 5] := by
  unfold ofV
  by_cases h : canon n = n
  · rw [if_pos h]; exact .inl ⟨rfl, h⟩
  · rw [if_neg h]; exact .inr rfl
/-- What Read answers, one way or the other. -/
theorem rdS_ways (s : ByteArray) : (∃ v, rdS s = .tuple #[.float .f64 v, .int .i64 0] ∧ hexText (canon v) = s ∧ v < 18446744073709551616) ∨ rdS s = .tuple #[.float .f64 0, .int .i64 5] := by
  unfold rdS
  by_cases h : s.size = 16
  · rw [if_pos h]
    cases hr : rd s.data.toList 0 with
    | none => exact .inr rfl
    | some v =>
      rcases ofV_ways v with ⟨h1, h2⟩ | h1
      · refine .inl ⟨v, h1, by rw [h2]; exact text_rd s v h hr, ?_⟩
        have := rd_lt _ _ _ 0 hr (by decide)
        rw [Array.length_toList, Nat.zero_add, show s.data.size = 16 from h] at this
        have e : (16 : Nat) ^ 16 = 18446744073709551616 := by decide
        omega
      · exact .inr h1
  · rw [if_neg h]; exact .inr rfl

set_option maxHeartbeats 1000000 in
theorem back_long (n : Nat) (s : ByteArray) (w : World) (hs : ¬ s.size ≤ 40) :
    Calls Try.prog 8 #[.int .u64 (n : Int), .string s] w fun e w' => e = .returned (.bool true) ∧ Below w.heap.size w w' := by
  have K := hide known_any
  have hB := Below.refl w.heap.size w
  have ss : decide (40 < (s.size : Int)) = true := by simp; omega
  have ss2 : 40 < s.size := by omega
  clear hs
  go_enter Try.func8, Try.ntmps8
  go_wp2_with fail
  refine (K.out _).mono ?_
  rintro e w1 ⟨rfl, hb⟩
  have hB := chain hB hb
  clear hb
  go_wp2
  go_ret
  exact ⟨rfl, hB⟩
set_option maxRecDepth 100000 in
set_option maxHeartbeats 2000000 in
theorem back_00 (n c : Nat) (v : Nat) (s hx : ByteArray) (w : World) (hs : s.size ≤ 40) (hcn : canon n = n) (_hv : v < 18446744073709551616)
    (h1 : (∀ W : World, Calls Try.prog 13 #[.int .u64 (c : Int)] W fun e w' => e = .returned (.tuple #[.float .f64 c, .int .i64 0]) ∧ W = w')) (h2 : (∀ W : World, Calls Try.prog 15 #[.string hx] W fun e w' => e = .returned (.tuple #[.float .f64 c, .int .i64 0]) ∧ W = w'))
    (h3 : (∀ W : World, Calls Try.prog 17 #[.float .f64 n] W fun e w' => e = .returned (.int .u64 (c : Int)) ∧ W = w')) (h4 : (∀ W : World, Calls Try.prog 19 #[.float .f64 n] W fun e w' => e = .returned (.string hx) ∧ Below W.heap.size W w')) (h5 : (∀ W : World, Calls Try.prog 22 #[.float .f64 c, .float .f64 n] W fun e w' => e = .returned (.int .i64 0) ∧ Below W.heap.size W w'))
    (h6 : (∀ W : World, Calls Try.prog 13 #[.int .u64 (n : Int)] W fun e w' => e = .returned (.tuple #[.float .f64 n, .int .i64 0]) ∧ W = w')) (h7 : (∀ W : World, Calls Try.prog 15 #[.string s] W fun e w' => e = .returned (.tuple #[.float .f64 v, .int .i64 0]) ∧ W = w')) (h8 : (∀ W : World, Calls Try.prog 19 #[.float .f64 v] W fun e w' => e = .returned (.string s) ∧ Below W.heap.size W w')) (hc : c = canon n) :
    Calls Try.prog 8 #[.int .u64 (n : Int), .string s] w fun e w' => e = .returned (.bool true) ∧ Below w.heap.size w w' := by
  have H1 := hide h1
  have H2 := hide h2
  have H3 := hide h3
  have H4 := hide h4
  have H5 := hide h5
  have H6 := hide h6
  have H7 := hide h7
  have H8 := hide h8
  have K := hide known_any
  have hB := Below.refl w.heap.size w
  have ss : decide (40 < (s.size : Int)) = false := by simp; omega
  have ss2 : ¬ 40 < s.size := by omega
  have t1 : ((c : Int) == (n : Int)) = true := by rw [hc, hcn]; simp
  have t4 : (s.toList == s.toList) = true := by simp
  clear h1 h2 h3 h4 h5 h6 h7 h8 hs hc hcn
  go_enter Try.func8, Try.ntmps8
  go_wp2_with fail
  refine (K.out _).mono ?_
  rintro e w1 ⟨rfl, hb⟩
  have hB := chain hB hb
  clear hb
  go_wp2_with fail
  refine (of_any n _).mono ?_
  rintro e w1 ⟨rfl, rfl⟩
  go_wp2_with fail
  refine (H3.out _).mono ?_
  rintro e w1 ⟨rfl, rfl⟩
  go_wp2_with fail
  refine (H1.out _).mono ?_
  rintro e w1 ⟨rfl, rfl⟩
  go_wp2_with fail
  refine (H4.out _).mono ?_
  rintro e w1 ⟨rfl, hb⟩
  have hB := chain hB hb
  clear hb
  go_wp2_with fail
  refine (H2.out _).mono ?_
  rintro e w1 ⟨rfl, rfl⟩
  go_wp2_with fail
  refine (H5.out _).mono ?_
  rintro e w1 ⟨rfl, hb⟩
  have hB := chain hB hb
  clear hb
  go_wp2_with fail
  refine (H5.out _).mono ?_
  rintro e w1 ⟨rfl, hb⟩
  have hB := chain hB hb
  clear hb
  go_wp2_with fail
  refine (H6.out _).mono ?_
  rintro e w1 ⟨rfl, rfl⟩
  go_wp2_with fail
  refine (H7.out _).mono ?_
  rintro e w1 ⟨rfl, rfl⟩
  go_wp2_with fail
  refine (H3.out _).mono ?_
  rintro e w1 ⟨rfl, rfl⟩
  go_wp2_with fail
  refine (H8.out _).mono ?_
  rintro e w1 ⟨rfl, hb⟩
  have hB := chain hB hb
  clear hb
  go_wp2
  go_ret
  exact ⟨rfl, hB⟩
set_option maxRecDepth 100000 in
set_option maxHeartbeats 2000000 in
theorem back_01 (n c : Nat) (v : Nat) (s hx : ByteArray) (w : World) (hs : s.size ≤ 40) (hcn : canon n = n) (_hv : v < 18446744073709551616)
    (h1 : (∀ W : World, Calls Try.prog 13 #[.int .u64 (c : Int)] W fun e w' => e = .returned (.tuple #[.float .f64 c, .int .i64 0]) ∧ W = w')) (h2 : (∀ W : World, Calls Try.prog 15 #[.string hx] W fun e w' => e = .returned (.tuple #[.float .f64 c, .int .i64 0]) ∧ W = w'))
    (h3 : (∀ W : World, Calls Try.prog 17 #[.float .f64 n] W fun e w' => e = .returned (.int .u64 (c : Int)) ∧ W = w')) (h4 : (∀ W : World, Calls Try.prog 19 #[.float .f64 n] W fun e w' => e = .returned (.string hx) ∧ Below W.heap.size W w')) (h5 : (∀ W : World, Calls Try.prog 22 #[.float .f64 c, .float .f64 n] W fun e w' => e = .returned (.int .i64 0) ∧ Below W.heap.size W w'))
    (h6 : (∀ W : World, Calls Try.prog 13 #[.int .u64 (n : Int)] W fun e w' => e = .returned (.tuple #[.float .f64 n, .int .i64 0]) ∧ W = w')) (h7 : (∀ W : World, Calls Try.prog 15 #[.string s] W fun e w' => e = .returned (.tuple #[.float .f64 0, .int .i64 5]) ∧ W = w')) (h8 : True) (hc : c = canon n) :
    Calls Try.prog 8 #[.int .u64 (n : Int), .string s] w fun e w' => e = .returned (.bool true) ∧ Below w.heap.size w w' := by
  have H1 := hide h1
  have H2 := hide h2
  have H3 := hide h3
  have H4 := hide h4
  have H5 := hide h5
  have H6 := hide h6
  have H7 := hide h7
  have H8 := hide h8
  have K := hide known_any
  have hB := Below.refl w.heap.size w
  have ss : decide (40 < (s.size : Int)) = false := by simp; omega
  have ss2 : ¬ 40 < s.size := by omega
  have t1 : ((c : Int) == (n : Int)) = true := by rw [hc, hcn]; simp
  have t4 : (s.toList == s.toList) = true := by simp
  clear h1 h2 h3 h4 h5 h6 h7 h8 hs hc hcn
  go_enter Try.func8, Try.ntmps8
  go_wp2_with fail
  refine (K.out _).mono ?_
  rintro e w1 ⟨rfl, hb⟩
  have hB := chain hB hb
  clear hb
  go_wp2_with fail
  refine (of_any n _).mono ?_
  rintro e w1 ⟨rfl, rfl⟩
  go_wp2_with fail
  refine (H3.out _).mono ?_
  rintro e w1 ⟨rfl, rfl⟩
  go_wp2_with fail
  refine (H1.out _).mono ?_
  rintro e w1 ⟨rfl, rfl⟩
  go_wp2_with fail
  refine (H4.out _).mono ?_
  rintro e w1 ⟨rfl, hb⟩
  have hB := chain hB hb
  clear hb
  go_wp2_with fail
  refine (H2.out _).mono ?_
  rintro e w1 ⟨rfl, rfl⟩
  go_wp2_with fail
  refine (H5.out _).mono ?_
  rintro e w1 ⟨rfl, hb⟩
  have hB := chain hB hb
  clear hb
  go_wp2_with fail
  refine (H5.out _).mono ?_
  rintro e w1 ⟨rfl, hb⟩
  have hB := chain hB hb
  clear hb
  go_wp2_with fail
  refine (H6.out _).mono ?_
  rintro e w1 ⟨rfl, rfl⟩
  go_wp2_with fail
  refine (H7.out _).mono ?_
  rintro e w1 ⟨rfl, rfl⟩
  go_wp2_with fail
  refine (H3.out _).mono ?_
  rintro e w1 ⟨rfl, rfl⟩
  go_wp2
  go_ret
  exact ⟨rfl, hB⟩
set_option maxRecDepth 100000 in
set_option maxHeartbeats 2000000 in
theorem back_10 (n c : Nat) (v : Nat) (s hx : ByteArray) (w : World) (hs : s.size ≤ 40) (_hcn : True) (_hv : v < 18446744073709551616)
    (h1 : (∀ W : World, Calls Try.prog 13 #[.int .u64 (c : Int)] W fun e w' => e = .returned (.tuple #[.float .f64 c, .int .i64 0]) ∧ W = w')) (h2 : (∀ W : World, Calls Try.prog 15 #[.string hx] W fun e w' => e = .returned (.tuple #[.float .f64 c, .int .i64 0]) ∧ W = w'))
    (h3 : (∀ W : World, Calls Try.prog 17 #[.float .f64 n] W fun e w' => e = .returned (.int .u64 (c : Int)) ∧ W = w')) (h4 : (∀ W : World, Calls Try.prog 19 #[.float .f64 n] W fun e w' => e = .returned (.string hx) ∧ Below W.heap.size W w')) (h5 : (∀ W : World, Calls Try.prog 22 #[.float .f64 c, .float .f64 n] W fun e w' => e = .returned (.int .i64 0) ∧ Below W.heap.size W w'))
    (h6 : (∀ W : World, Calls Try.prog 13 #[.int .u64 (n : Int)] W fun e w' => e = .returned (.tuple #[.float .f64 0, .int .i64 5]) ∧ W = w')) (h7 : (∀ W : World, Calls Try.prog 15 #[.string s] W fun e w' => e = .returned (.tuple #[.float .f64 v, .int .i64 0]) ∧ W = w')) (h8 : (∀ W : World, Calls Try.prog 19 #[.float .f64 v] W fun e w' => e = .returned (.string s) ∧ Below W.heap.size W w')) (hc : c = canon n) :
    Calls Try.prog 8 #[.int .u64 (n : Int), .string s] w fun e w' => e = .returned (.bool true) ∧ Below w.heap.size w w' := by
  have H1 := hide h1
  have H2 := hide h2
  have H3 := hide h3
  have H4 := hide h4
  have H5 := hide h5
  have H6 := hide h6
  have H7 := hide h7
  have H8 := hide h8
  have K := hide known_any
  have hB := Below.refl w.heap.size w
  have ss : decide (40 < (s.size : Int)) = false := by simp; omega
  have ss2 : ¬ 40 < s.size := by omega
  have t1 : ((c : Int) == (n : Int)) = decide (c = n) := by rw [Bool.eq_iff_iff]; simp; omega
  have t4 : (s.toList == s.toList) = true := by simp
  clear h1 h2 h3 h4 h5 h6 h7 h8 hs hc 
  go_enter Try.func8, Try.ntmps8
  go_wp2_with fail
  refine (K.out _).mono ?_
  rintro e w1 ⟨rfl, hb⟩
  have hB := chain hB hb
  clear hb
  go_wp2_with fail
  refine (of_any n _).mono ?_
  rintro e w1 ⟨rfl, rfl⟩
  go_wp2_with fail
  refine (H3.out _).mono ?_
  rintro e w1 ⟨rfl, rfl⟩
  go_wp2_with fail
  refine (H1.out _).mono ?_
  rintro e w1 ⟨rfl, rfl⟩
  go_wp2_with fail
  refine (H4.out _).mono ?_
  rintro e w1 ⟨rfl, hb⟩
  have hB := chain hB hb
  clear hb
  go_wp2_with fail
  refine (H2.out _).mono ?_
  rintro e w1 ⟨rfl, rfl⟩
  go_wp2_with fail
  refine (H5.out _).mono ?_
  rintro e w1 ⟨rfl, hb⟩
  have hB := chain hB hb
  clear hb
  go_wp2_with fail
  refine (H5.out _).mono ?_
  rintro e w1 ⟨rfl, hb⟩
  have hB := chain hB hb
  clear hb
  go_wp2_with fail
  refine (H6.out _).mono ?_
  rintro e w1 ⟨rfl, rfl⟩
  go_wp2_with fail
  refine (H7.out _).mono ?_
  rintro e w1 ⟨rfl, rfl⟩
  go_wp2_with fail
  refine (H8.out _).mono ?_
  rintro e w1 ⟨rfl, hb⟩
  have hB := chain hB hb
  clear hb
  go_wp2
  go_ret
  exact ⟨rfl, hB⟩
set_option maxRecDepth 100000 in
set_option maxHeartbeats 2000000 in
theorem back_11 (n c : Nat) (v : Nat) (s hx : ByteArray) (w : World) (hs : s.size ≤ 40) (_hcn : True) (_hv : v < 18446744073709551616)
    (h1 : (∀ W : World, Calls Try.prog 13 #[.int .u64 (c : Int)] W fun e w' => e = .returned (.tuple #[.float .f64 c, .int .i64 0]) ∧ W = w')) (h2 : (∀ W : World, Calls Try.prog 15 #[.string hx] W fun e w' => e = .returned (.tuple #[.float .f64 c, .int .i64 0]) ∧ W = w'))
    (h3 : (∀ W : World, Calls Try.prog 17 #[.float .f64 n] W fun e w' => e = .returned (.int .u64 (c : Int)) ∧ W = w')) (h4 : (∀ W : World, Calls Try.prog 19 #[.float .f64 n] W fun e w' => e = .returned (.string hx) ∧ Below W.heap.size W w')) (h5 : (∀ W : World, Calls Try.prog 22 #[.float .f64 c, .float .f64 n] W fun e w' => e = .returned (.int .i64 0) ∧ Below W.heap.size W w'))
    (h6 : (∀ W : World, Calls Try.prog 13 #[.int .u64 (n : Int)] W fun e w' => e = .returned (.tuple #[.float .f64 0, .int .i64 5]) ∧ W = w')) (h7 : (∀ W : World, Calls Try.prog 15 #[.string s] W fun e w' => e = .returned (.tuple #[.float .f64 0, .int .i64 5]) ∧ W = w')) (h8 : True) (hc : c = canon n) :
    Calls Try.prog 8 #[.int .u64 (n : Int), .string s] w fun e w' => e = .returned (.bool true) ∧ Below w.heap.size w w' := by
  have H1 := hide h1
  have H2 := hide h2
  have H3 := hide h3
  have H4 := hide h4
  have H5 := hide h5
  have H6 := hide h6
  have H7 := hide h7
  have H8 := hide h8
  have K := hide known_any
  have hB := Below.refl w.heap.size w
  have ss : decide (40 < (s.size : Int)) = false := by simp; omega
  have ss2 : ¬ 40 < s.size := by omega
  have t1 : ((c : Int) == (n : Int)) = decide (c = n) := by rw [Bool.eq_iff_iff]; simp; omega
  have t4 : (s.toList == s.toList) = true := by simp
  clear h1 h2 h3 h4 h5 h6 h7 h8 hs hc 
  go_enter Try.func8, Try.ntmps8
  go_wp2_with fail
  refine (K.out _).mono ?_
  rintro e w1 ⟨rfl, hb⟩
  have hB := chain hB hb
  clear hb
  go_wp2_with fail
  refine (of_any n _).mono ?_
  rintro e w1 ⟨rfl, rfl⟩
  go_wp2_with fail
  refine (H3.out _).mono ?_
  rintro e w1 ⟨rfl, rfl⟩
  go_wp2_with fail
  refine (H1.out _).mono ?_
  rintro e w1 ⟨rfl, rfl⟩
  go_wp2_with fail
  refine (H4.out _).mono ?_
  rintro e w1 ⟨rfl, hb⟩
  have hB := chain hB hb
  clear hb
  go_wp2_with fail
  refine (H2.out _).mono ?_
  rintro e w1 ⟨rfl, rfl⟩
  go_wp2_with fail
  refine (H5.out _).mono ?_
  rintro e w1 ⟨rfl, hb⟩
  have hB := chain hB hb
  clear hb
  go_wp2_with fail
  refine (H5.out _).mono ?_
  rintro e w1 ⟨rfl, hb⟩
  have hB := chain hB hb
  clear hb
  go_wp2_with fail
  refine (H6.out _).mono ?_
  rintro e w1 ⟨rfl, rfl⟩
  go_wp2_with fail
  refine (H7.out _).mono ?_
  rintro e w1 ⟨rfl, rfl⟩
  go_wp2
  go_ret
  exact ⟨rfl, hB⟩

theorem back_any (n : Nat) (s : ByteArray) (w : World) (hn : n < 18446744073709551616) :
    Calls Try.prog 8 #[.int .u64 (n : Int), .string s] w fun e w' => e = .returned (.bool true) ∧ Below w.heap.size w w' := by
  by_cases hs : s.size ≤ 40
  · have h1 := fun W => pof_any (canon n) W
    rw [ofV_canon] at h1
    have h2 := fun W => read_any (hexText (canon n)) W
    rw [rdS_text n hn] at h2
    have h3 := bits_any n
    have h4 := fun W => text_any n W hn
    have h5 := fun W => cmp_any (canon n) n W (canon_lt hn) hn
    rw [rank_canon_self hn, cmp3_zero.2 rfl] at h5
    have h6 := fun W => pof_any n W
    have h7 := fun W => read_any s W
    rcases ofV_ways n with ⟨a1, a2⟩ | a1 <;> rcases rdS_ways s with ⟨v, b1, b2, b3⟩ | b1 <;> rw [a1] at h6 <;> rw [b1] at h7
    · have h8 := fun W => text_any v W b3
      rw [b2] at h8
      exact back_00 n (canon n) v s _ w hs a2 b3 h1 h2 h3 h4 h5 h6 h7 h8 rfl
    · exact back_01 n (canon n) 0 s _ w hs a2 (by decide) h1 h2 h3 h4 h5 h6 h7 trivial rfl
    · have h8 := fun W => text_any v W b3
      rw [b2] at h8
      exact back_10 n (canon n) v s _ w hs trivial b3 h1 h2 h3 h4 h5 h6 h7 h8 rfl
    · exact back_11 n (canon n) 0 s _ w hs trivial (by decide) h1 h2 h3 h4 h5 h6 h7 trivial rfl
  · exact back_long n s w hs
end PaceP
end Go.Proofs.Ytoamiedaeofcaaa
