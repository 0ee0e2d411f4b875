/-
  The chapter's examples, on pace: PaceKnown.
-/
import Derived.Test.YtoamiedaeofcaaaPaceF
namespace Go.Proofs.Ytoamiedaeofcaaa
namespace PaceK
open Go.RowKit Go.Shelf
open FltR FltC PaceA PaceB PaceC PaceD PaceE PaceG PaceF HexM

theorem below_of {W W' : World} {n : Nat} (h : W' = W.drewN n) : Below W.heap.size W W' := by
  subst h
  exact below_drewN (Below.refl _ _) n
theorem canon_num {z v : Nat} (h : canon z = v) (hv : isN v = false) : z = v := by
  have n1 := isN_canon z
  rw [h, hv] at n1
  rw [← h]; unfold canon; rw [← n1]; rfl
theorem cmp_nn (x : Nat) (w : World) (hx : Hid (isN x = true ∧ x < 18446744073709551616)) :
    Calls Try.prog 22 #[.float .f64 x, .float .f64 9221120237041090561] w fun e w' => e = .returned (.int .i64 0) ∧ Below w.heap.size w w' :=
  cmp_c x 9221120237041090561 0 w hx.out.2 (by decide) (rank_nan_cmp hx.out.1 (by decide))
theorem read_one (w : World) : Calls Try.prog 15 #[.string ⟨#[51, 102, 102, 48, 48, 48, 48, 48, 48, 48, 48, 48, 48, 48, 48, 48]⟩] w fun e w' => e = .returned (.tuple #[.float .f64 4607182418800017408, .int .i64 0]) ∧ w = w' := by
  have C := read_16 ⟨#[51, 102, 102, 48, 48, 48, 48, 48, 48, 48, 48, 48, 48, 48, 48, 48]⟩ w (by decide)
  have e : readV (rd (ByteArray.data ⟨#[51, 102, 102, 48, 48, 48, 48, 48, 48, 48, 48, 48, 48, 48, 48, 48]⟩).toList 0) = .tuple #[.float .f64 4607182418800017408, .int .i64 0] := by kernel_rfl
  rw [e] at C
  exact C
theorem read_cap (w : World) : Calls Try.prog 15 #[.string ⟨#[51, 70, 70, 48, 48, 48, 48, 48, 48, 48, 48, 48, 48, 48, 48, 48]⟩] w fun e w' => e = .returned (.tuple #[.float .f64 0, .int .i64 5]) ∧ w = w' := by
  have C := read_16 ⟨#[51, 70, 70, 48, 48, 48, 48, 48, 48, 48, 48, 48, 48, 48, 48, 48]⟩ w (by decide)
  have e : readV (rd (ByteArray.data ⟨#[51, 70, 70, 48, 48, 48, 48, 48, 48, 48, 48, 48, 48, 48, 48, 48]⟩).toList 0) = .tuple #[.float .f64 0, .int .i64 5] := by kernel_rfl
  rw [e] at C
  exact C
set_option maxHeartbeats 400000 in
theorem refused_of (s : ByteArray) (w : World) (h : ∀ W, Calls Try.prog 15 #[.string s] W fun e w' => e = .returned (.tuple #[.float .f64 0, .int .i64 5]) ∧ W = w') :
    Calls Try.prog 36 #[.string s] w fun e w' => e = .returned (.bool true) ∧ w = w' := by
  have H := hide h
  clear h
  go_enter Try.func36, Try.ntmps36
  go_wp2_with fail
  refine (H.out _).mono ?_
  rintro e w1 ⟨rfl, rfl⟩
  go_wp2
  go_ret
  exact ⟨rfl, rfl⟩
set_option maxHeartbeats 400000 in
theorem form_of (n : Nat) (w : World) (h : canon n ≠ n) : Calls Try.prog 35 #[.int .u64 (n : Int)] w fun e w' => e = .returned (.bool true) ∧ w = w' := by
  have H := hide (fun W => pof_no n W h)
  clear h
  go_enter Try.func35, Try.ntmps35
  go_wp2_with fail
  refine (H.out _).mono ?_
  rintro e w1 ⟨rfl, rfl⟩
  go_wp2
  go_ret
  exact ⟨rfl, rfl⟩
theorem form_1 (w : World) : Calls Try.prog 35 #[.int .u64 9221120237041090561] w fun e w' => e = .returned (.bool true) ∧ w = w' := form_of 9221120237041090561 w (by decide)
theorem form_2 (w : World) : Calls Try.prog 35 #[.int .u64 18444492273895866368] w fun e w' => e = .returned (.bool true) ∧ w = w' := form_of 18444492273895866368 w (by decide)

theorem mean_2 (b : Nat) (w : World) (c0 : w.cell? ⟨b, 0, none⟩ = some (.float .f64 4620693217682128896)) (c1 : w.cell? ⟨b, 1, none⟩ = some (.float .f64 4625196817309499392)) (hb : b < w.heap.size) :
    Calls Try.prog 27 #[.slice (some ⟨b, 0, none⟩) 2 2] w fun e w' => e = .returned (.float .f64 4621256167635550208) ∧ ∃ n, w' = w.drewN n := by
  refine (mean_any [4620693217682128896, 4625196817309499392] (some ⟨b, 0, none⟩) b 0 2 2 w rfl (by decide) (fun k => (Nat.lt_or_ge k 2).elim (fun h => by rcases (show k = 0 ∨ k = 1 by omega) with rfl | rfl <;> decide) (fun h => by rw [List.getD, List.getElem?_eq_none (by simpa using h)]; decide)) (.inr rfl) (fun k hk => by rcases (show k = 0 ∨ k = 1 by omega) with rfl | rfl <;> simpa using by assumption) (.inr hb)).mono ?_
  rintro e w' ⟨z, rfl, hz, _, hn⟩
  rw [canon_num (hz.trans (show meanTo [4620693217682128896, 4625196817309499392] 2 = 4621256167635550208 by decide +kernel)) (by decide)]
  exact ⟨rfl, hn⟩
theorem mean_0 (w : World) : Calls Try.prog 27 #[.slice none 0 0] w fun e w' => ∃ z, e = .returned (.float .f64 z) ∧ (isN z = true ∧ z < 18446744073709551616) ∧ ∃ n, w' = w.drewN n := by
  refine (mean_any [] none 0 0 0 0 w rfl (by decide) (fun k => by simp) (.inl rfl) (fun k hk => absurd hk (by omega)) (.inl rfl)).mono ?_
  rintro e w' ⟨z, rfl, hz, hz2, hn⟩
  have n1 := isN_canon z
  rw [hz] at n1
  exact ⟨z, rfl, ⟨n1.symm.trans (by decide), hz2⟩, hn⟩
theorem least_3 (b : Nat) (w : World) (c0 : w.cell? ⟨b, 0, none⟩ = some (.float .f64 4607182418800017408)) (c1 : w.cell? ⟨b, 1, none⟩ = some (.float .f64 9223372036854775808)) (c2 : w.cell? ⟨b, 2, none⟩ = some (.float .f64 0)) (hb : b < w.heap.size) :
    Calls Try.prog 29 #[.slice (some ⟨b, 0, none⟩) 3 3] w fun e w' => e = .returned (.int .i64 1) ∧ Below w.heap.size w w' := by
  have C := least_any [4607182418800017408, 9223372036854775808, 0] (some ⟨b, 0, none⟩) b 0 3 3 w rfl (by decide) (fun k => (Nat.lt_or_ge k 3).elim (fun h => by rcases (show k = 0 ∨ k = 1 ∨ k = 2 by omega) with rfl | rfl | rfl <;> decide) (fun h => by rw [List.getD, List.getElem?_eq_none (by simpa using h)]; decide)) (.inr rfl) (fun k hk => by rcases (show k = 0 ∨ k = 1 ∨ k = 2 by omega) with rfl | rfl | rfl <;> simpa using by assumption) (.inr hb)
  rw [show leastTo [4607182418800017408, 9223372036854775808, 0] 3 = 1 by decide +kernel] at C
  exact C
theorem least_2 (b : Nat) (w : World) (c0 : w.cell? ⟨b, 0, none⟩ = some (.float .f64 9221120237041090561)) (c1 : w.cell? ⟨b, 1, none⟩ = some (.float .f64 9221120237041090561)) (hb : b < w.heap.size) :
    Calls Try.prog 29 #[.slice (some ⟨b, 0, none⟩) 2 2] w fun e w' => e = .returned (.int .i64 0) ∧ Below w.heap.size w w' := by
  have C := least_any [9221120237041090561, 9221120237041090561] (some ⟨b, 0, none⟩) b 0 2 2 w rfl (by decide) (fun k => (Nat.lt_or_ge k 2).elim (fun h => by rcases (show k = 0 ∨ k = 1 by omega) with rfl | rfl <;> decide) (fun h => by rw [List.getD, List.getElem?_eq_none (by simpa using h)]; decide)) (.inr rfl) (fun k hk => by rcases (show k = 0 ∨ k = 1 by omega) with rfl | rfl <;> simpa using by assumption) (.inr hb)
  rw [show leastTo [9221120237041090561, 9221120237041090561] 2 = 0 by decide +kernel] at C
  exact C
theorem least_0 (w : World) : Calls Try.prog 29 #[.slice none 0 0] w fun e w' => e = .returned (.int .i64 (-1)) ∧ Below w.heap.size w w' :=
  least_any [] none 0 0 0 0 w rfl (by decide) (fun k => by simp) (.inl rfl) (fun k hk => absurd hk (by omega)) (.inl rfl)

set_option maxRecDepth 100000 in
set_option maxHeartbeats 2000000 in
theorem known_any (w : World) : Calls Try.prog 6 #[] w fun e w' => e = .returned (.bool true) ∧ Below w.heap.size w w' := by
  have hB := Below.refl w.heap.size w
  have f1 : FloatKind.f64.format.order 4607182418800017408 4607182418800017408 = some .eq := by decide +kernel
  have f9 : FloatKind.f64.format.order 4621256167635550208 4621256167635550208 = some .eq := by decide +kernel
  have fi : FloatKind.f64.format.order 9218868437227405312 9218868437227405312 = some .eq := by decide +kernel
  have hneg : Op.unary .neg (.float .f64 9218868437227405312) = pure (.float .f64 18442240474082181120) := by
    have : Op.negFloat .f64 9218868437227405312 = 18442240474082181120 := by decide +kernel
    rw [← this]; rfl
  go_enter Try.func6, Try.ntmps6
  go_wp2_with (first
    | (go_at_call 32; refine (copy_any _).mono ?_; rintro e w1 ⟨rfl, rfl⟩)
    | (go_at_call 33; refine (inf_any _).mono ?_; rintro e w1 ⟨rfl, rfl⟩)
    | (go_at_call 34; refine (nan_any _).mono ?_; rintro e w1 ⟨rfl, rfl⟩)
    | (go_at_call 15; refine (read_one _).mono ?_; rintro e w1 ⟨rfl, rfl⟩)
    | (go_at_call_of 22 (Value.float .f64 9221120237041090561); refine (cmp_nn _ _ (by first | assumption | exact hide (by decide))).mono ?_; rintro e w1 ⟨rfl, hb⟩; have hB := chain hB hb; clear hb)
    | (go_at_call_of 22 (Value.float .f64 4611686018427387904); refine (cmp_c _ _ (-1) _ (by decide) (by decide) (by decide +kernel)).mono ?_; rintro e w1 ⟨rfl, hb⟩; have hB := chain hB hb; clear hb)
    | (go_at_call_of 22 (Value.float .f64 13830554455654793216); refine (cmp_c _ _ (-1) _ (by decide) (by decide) (by decide +kernel)).mono ?_; rintro e w1 ⟨rfl, hb⟩; have hB := chain hB hb; clear hb)
    | (go_at_call_of 17 (Value.float .f64 9221120237041090561); refine (bits_c _ 9221120237041090560 _ (by decide +kernel)).mono ?_; rintro e w1 ⟨rfl, rfl⟩)
    | (go_at_call_of 17 (Value.float .f64 9223372036854775808); refine (bits_c _ 9223372036854775808 _ (by decide +kernel)).mono ?_; rintro e w1 ⟨rfl, rfl⟩)
    | (go_at_call_of 17 (Value.float .f64 0); refine (bits_c _ 0 _ (by decide +kernel)).mono ?_; rintro e w1 ⟨rfl, rfl⟩)
    | (go_at_call_of 35 (Value.int .u64 9221120237041090561); refine (form_1 _).mono ?_; rintro e w1 ⟨rfl, rfl⟩)
    | (go_at_call 35; refine (form_2 _).mono ?_; rintro e w1 ⟨rfl, rfl⟩)
    | (go_at_call_of 36 (Value.string ⟨#[51, 70, 70, 48, 48, 48, 48, 48, 48, 48, 48, 48, 48, 48, 48, 48]⟩); refine (refused_of _ _ read_cap).mono ?_; rintro e w1 ⟨rfl, rfl⟩)
    | (go_at_call 36; refine (refused_of _ _ (fun W => read_short _ W (by decide))).mono ?_; rintro e w1 ⟨rfl, rfl⟩)
    | (go_at_call_of 24 (Value.float .f64 9221120237041090561); refine (sm_c _ _ 9223372036854775808 _ (by decide) (by decide +kernel) (by decide)).mono ?_; rintro e w1 ⟨rfl, n1, hw⟩; have hb := below_of hw; clear hw; have hB := chain hB hb; clear hb)
    | (go_at_call_of 24 (Value.float .f64 9223372036854775808); refine (sm_c _ _ 0 _ (by decide) (by decide +kernel) (by decide)).mono ?_; rintro e w1 ⟨rfl, n1, hw⟩; have hb := below_of hw; clear hw; have hB := chain hB hb; clear hb)
    | (go_at_call_of 24 (Value.float .f64 0); refine (sm_c _ _ 9218868437227405312 _ (by decide) (by decide +kernel) (by decide)).mono ?_; rintro e w1 ⟨rfl, n1, hw⟩; have hb := below_of hw; clear hw; have hB := chain hB hb; clear hb)
    | (go_at_call 24; refine (sm_cn _ _ _ (by decide) (by decide +kernel)).mono ?_; rintro e w1 ⟨z1, rfl, hz1, n1, hw⟩; have HZ1 := hide hz1; clear hz1; have hb := below_of hw; clear hw; have hB := chain hB hb; clear hb)
    | (go_at_call_of 27 (Value.slice none 0 0); refine (mean_0 _).mono ?_; rintro e w1 ⟨z2, rfl, hz2, n1, hw⟩; have HZ2 := hide hz2; clear hz2; have hb := below_of hw; clear hw; have hB := chain hB hb; clear hb)
    | (go_at_call 27; refine (mean_2 _ _ (by simp [go_sem]) (by simp [go_sem]) (by simp)).mono ?_; rintro e w1 ⟨rfl, n1, hw⟩; have hb := below_of hw; clear hw; have hB := chain (hB.alloc hB.size _) hb; clear hb)
    | (go_at_call 11; refine (awake_any _).mono ?_; rintro e w1 ⟨rfl, hb⟩; have hB := chain hB hb; clear hb)
    | (go_at_call_of 29 (Value.slice none 0 0); refine (least_0 _).mono ?_; rintro e w1 ⟨rfl, hb⟩; have hB := chain hB hb; clear hb)
    | (go_at_call 29; first
        | ((with_reducible refine (least_3 _ _ ?_ ?_ ?_ ?_).mono ?_); (· simp [go_sem]); (· simp [go_sem]); (· simp [go_sem]); (· simp); rintro e w1 ⟨rfl, hb⟩; have hB := chain (hB.alloc hB.size _) hb; clear hb)
        | ((with_reducible refine (least_2 _ _ ?_ ?_ ?_).mono ?_); (· simp [go_sem]); (· simp [go_sem]); (· simp); rintro e w1 ⟨rfl, hb⟩; have hB := chain (hB.alloc hB.size _) hb; clear hb)))
  go_ret
  exact ⟨rfl, hB⟩
end PaceK
end Go.Proofs.Ytoamiedaeofcaaa
