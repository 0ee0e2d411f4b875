/-
  The examples that each of the second layer's statements asks: awake.
-/
import Derived.Test.YtoamiedaeofcaaaPaceE
import Derived.Test.YtoamiedaeofcaaaPaceG
namespace Go.Proofs.Ytoamiedaeofcaaa
namespace PaceF
open Go.RowKit Go.Shelf
open FltR FltC PaceA PaceB PaceC PaceD PaceE PaceG HexM

theorem chain {w W W' : World} (h : Below w.heap.size w W) (k : Below W.heap.size W W') : Below w.heap.size w W' := h.trans (k.mono h.size)

theorem cmp_c (x y : Nat) (r : Int) (w : World) (hx : x < 18446744073709551616) (hy : y < 18446744073709551616) (h : cmp3 (rank x) (rank y) = r) :
    Calls Try.prog 22 #[.float .f64 x, .float .f64 y] w fun e w' => e = .returned (.int .i64 r) ∧ Below w.heap.size w w' := h ▸ cmp_any x y w hx hy
/-- What is smoothed, where it is a number. -/
theorem sm_c (x y v : Nat) (w : World) (hy : y < 18446744073709551616) (h : smooth x y = v) (hv : isN v = false) :
    Calls Try.prog 24 #[.float .f64 x, .float .f64 y] w fun e w' => e = .returned (.float .f64 v) ∧ ∃ n, w' = w.drewN n := by
  refine (psm_any x y w hy).mono ?_
  rintro e w' ⟨z, rfl, ⟨hz, _⟩, hn⟩
  rw [h] at hz
  have n1 := isN_canon z
  rw [hz, hv] at n1
  have : canon z = z := by unfold canon; rw [← n1]; rfl
  rw [← hz, this]
  exact ⟨rfl, hn⟩
/-- Where it is none. -/
theorem sm_cn (x y : Nat) (w : World) (hy : y < 18446744073709551616) (h : smooth x y = 9221120237041090560) :
    Calls Try.prog 24 #[.float .f64 x, .float .f64 y] w fun e w' => ∃ z, e = .returned (.float .f64 z) ∧ (isN z = true ∧ z < 18446744073709551616) ∧ ∃ n, w' = w.drewN n := by
  refine (psm_any x y w hy).mono ?_
  rintro e w' ⟨z, rfl, ⟨hz, hz2⟩, hn⟩
  rw [h] at hz
  have n1 := isN_canon z
  rw [hz] at n1
  exact ⟨z, rfl, ⟨n1.symm.trans (by decide), hz2⟩, hn⟩
theorem bits_c (x : Nat) (v : Int) (w : World) (h : (canon x : Int) = v) : Calls Try.prog 17 #[.float .f64 x] w fun e w' => e = .returned (.int .u64 v) ∧ w = w' := h ▸ bits_any x w
theorem text_c (w : World) : Calls Try.prog 19 #[.float .f64 4607182418800017408] w fun e w' => e = .returned (.string ⟨#[51, 102, 102, 48, 48, 48, 48, 48, 48, 48, 48, 48, 48, 48, 48, 48]⟩) ∧ Below w.heap.size w w' := by
  have C := text_any 4607182418800017408 w (by decide)
  have e : hexText (canon 4607182418800017408) = ⟨#[51, 102, 102, 48, 48, 48, 48, 48, 48, 48, 48, 48, 48, 48, 48, 48]⟩ := by kernel_rfl
  rw [e] at C
  exact C

set_option maxHeartbeats 400000 in
theorem copy_any (w : World) : Calls Try.prog 32 #[.float .f64 0, .float .f64 13830554455654793216] w fun e w' => e = .returned (.float .f64 9223372036854775808) ∧ w = w' := by
  have h1 : ∀ w : World, (callFunc 31 #[.float .f64 0]).run Try.prog w = .ok (.value (.int .u64 0)) w := fbits 0
  have h2 : ∀ w : World, (callFunc 31 #[.float .f64 13830554455654793216]).run Try.prog w = .ok (.value (.int .u64 13830554455654793216)) w := fbits 13830554455654793216
  have h3 : ∀ w : World, (callFunc 43 #[.int .u64 9223372036854775808]).run Try.prog w = .ok (.value (.float .f64 9223372036854775808)) w := ffrom 9223372036854775808
  have b1 : bits .andNot .u64 0 9223372036854775808 = 0 := by decide +kernel
  have b2 : bits .and .u64 13830554455654793216 9223372036854775808 = 9223372036854775808 := by decide +kernel
  have b3 : bits .or .u64 0 9223372036854775808 = 9223372036854775808 := by decide +kernel
  go_enter Try.func32, Try.ntmps32
  go_wp2
  go_ret
  exact ⟨rfl, rfl⟩
set_option maxHeartbeats 400000 in
theorem inf_any (w : World) : Calls Try.prog 33 #[.int .i64 1] w fun e w' => e = .returned (.float .f64 9218868437227405312) ∧ w = w' := by
  have h3 : ∀ w : World, (callFunc 43 #[.int .u64 9218868437227405312]).run Try.prog w = .ok (.value (.float .f64 9218868437227405312)) w := ffrom 9218868437227405312
  go_enter Try.func33, Try.ntmps33
  go_wp2
  go_ret
  exact ⟨rfl, rfl⟩

set_option maxHeartbeats 1000000 in
theorem awake_any (w : World) : Calls Try.prog 11 #[] w fun e w' => e = .returned (.bool true) ∧ Below w.heap.size w w' := by
  have hB := Below.refl w.heap.size w
  have f9 : FloatKind.f64.format.order 4621256167635550208 4621256167635550208 = some .eq := by decide +kernel
  go_enter Try.func11, Try.ntmps11
  go_wp2_with (first
    | (go_at_call 32; refine (copy_any _).mono ?_; rintro e w1 ⟨rfl, rfl⟩)
    | (go_at_call 33; refine (inf_any _).mono ?_; rintro e w1 ⟨rfl, rfl⟩)
    | (go_at_call 34; refine (nan_any _).mono ?_; rintro e w1 ⟨rfl, rfl⟩)
    | (go_at_call_of 22 (Value.float .f64 0); refine (cmp_c _ _ (-1) _ (by decide) (by decide) (by decide +kernel)).mono ?_; rintro e w1 ⟨rfl, hb⟩; have hB := chain hB hb; clear hb)
    | (go_at_call 22; refine (cmp_c _ _ 1 _ (by decide) (by decide) (by decide +kernel)).mono ?_; rintro e w1 ⟨rfl, hb⟩; have hB := chain hB hb; clear hb)
    | (go_at_call 24; refine (sm_c _ _ 4621256167635550208 _ (by decide) (by decide +kernel) (by decide)).mono ?_; rintro e w1 ⟨rfl, n1, rfl⟩; have hB := below_drewN hB n1)
    | (go_at_call 17; refine (bits_c _ 9223372036854775808 _ (by decide +kernel)).mono ?_; rintro e w1 ⟨rfl, rfl⟩)
    | (go_at_call 19; refine (text_c _).mono ?_; rintro e w1 ⟨rfl, hb⟩; have hB := chain hB hb; clear hb))
  go_ret
  exact ⟨rfl, hB⟩
end PaceF
end Go.Proofs.Ytoamiedaeofcaaa
