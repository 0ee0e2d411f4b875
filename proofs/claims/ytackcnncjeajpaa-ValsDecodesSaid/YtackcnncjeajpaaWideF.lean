/-
  Sums and reading: the two folds of package wide, Sum, Read.
-/
import Derived.Test.YtackcnncjeajpaaWideI
namespace Go.Proofs.Ytackcnncjeajpaa
open Go.RowKit Go.Shelf
namespace WideF
open WideA WideB WideT WideI

theorem wRes_full {V : Int} (h : 340282366920938463463374607431768211456 ≤ V) : wRes V = .tuple #[.agg #[.int .u64 0, .int .u64 0], .int .i64 7] := by
  unfold wRes
  have hc : V / 340282366920938463463374607431768211456 ≠ 0 := by omega
  rw [okN_other hc, okN_other hc, errN_other hc]
theorem wRes_ok {V : Int} (h0 : 0 ≤ V) (h : V < 340282366920938463463374607431768211456) : wRes V = .tuple #[.agg #[.int .u64 (V / 18446744073709551616), .int .u64 (V % 18446744073709551616)], .int .i64 0] := by
  unfold wRes
  have hc : V / 340282366920938463463374607431768211456 = 0 := by omega
  rw [hc, okN_zero, okN_zero, errN_zero, show V / 18446744073709551616 % 18446744073709551616 = V / 18446744073709551616 by omega]

set_option maxHeartbeats 400000 in
theorem join_any (h l d : Int) (w : World) (hl : 0 ≤ h) (hu : h < 18446744073709551616) (ll : 0 ≤ l) (lu : l < 18446744073709551616) (d0 : 48 ≤ d) (d1 : d ≤ 57) :
    Calls Try.prog 197 #[.agg #[.int .u64 h, .int .u64 l], .int .u8 d] w fun e w' =>
      e = .returned (wRes ((h * 18446744073709551616 + l) * 10 + (d - 48))) ∧ Below w.heap.size w w' := by
  have C1 := fun W => times_any h l 10 W hl hu ll lu (by decide) (by decide)
  by_cases hf : 340282366920938463463374607431768211456 ≤ (h * 18446744073709551616 + l) * 10
  · rw [wRes_full hf] at C1
    rw [wRes_full (show 340282366920938463463374607431768211456 ≤ (h * 18446744073709551616 + l) * 10 + (d - 48) by omega)]
    have H1 := hide C1
    clear C1 hf
    go_enter Try.func197, Try.ntmps197
    go_wp2_with fail
    refine (H1.out _).mono ?_
    rintro e w1 ⟨rfl, hb⟩
    obtain ⟨hc, hf, hz⟩ := bcell hb
    simp only [World.size_alloc] at hc hf hz
    have hz1 : w.heap.size + 1 < w1.heap.size := by omega
    go_wp2
    exact bodyPost_ret (v := .tuple #[.agg #[.int .u64 0, .int .u64 0], .int .i64 7]) (by simp [results, Try.results197, go_sem, hc, hz1]) rfl ⟨rfl, (by repeat (first | assumption | exact Below.refl _ _ | refine Below.setCell ?_ (by first | omega | (simp; done) | (simp; omega)) _ | refine below_drewN ?_ _ | refine Below.drew ?_ | refine Below.alloc ?_ (by first | omega | (simp; done) | (simp; omega)) _ | refine Below.trans ?_ (Below.mono (by assumption) (by first | omega | (simp; done) | (simp; omega)))))⟩
  · rw [wRes_ok (by omega) (by omega)] at C1
    have H1 := hide C1
    have C2 := fun W => plus_any ((h * 18446744073709551616 + l) * 10 / 18446744073709551616) ((h * 18446744073709551616 + l) * 10 % 18446744073709551616) 0 (d - 48) W (by omega) (by omega) (by omega) (by omega) (by decide) (by decide) (by omega) (by omega)
    rw [show (h * 18446744073709551616 + l) * 10 / 18446744073709551616 * 18446744073709551616 + (h * 18446744073709551616 + l) * 10 % 18446744073709551616 + (0 * 18446744073709551616 + (d - 48)) = (h * 18446744073709551616 + l) * 10 + (d - 48) by omega] at C2
    have H2 := hide C2
    clear C1 C2 hf
    unfold wRes at H2 ⊢
    generalize (h * 18446744073709551616 + l) * 10 / 18446744073709551616 = a at *
    generalize (h * 18446744073709551616 + l) * 10 % 18446744073709551616 = b at *
    generalize (h * 18446744073709551616 + l) * 10 + (d - 48) = V at *
    generalize okN (V / 340282366920938463463374607431768211456) (V / 18446744073709551616 % 18446744073709551616) = x at *
    generalize okN (V / 340282366920938463463374607431768211456) (V % 18446744073709551616) = y at *
    generalize errN (V / 340282366920938463463374607431768211456) = z at *
    go_enter Try.func197, Try.ntmps197
    go_wp2_with fail
    refine (H1.out _).mono ?_
    rintro e w1 ⟨rfl, hb⟩
    obtain ⟨hc, hf, hz⟩ := bcell hb
    simp only [World.size_alloc] at hc hf hz
    have hz0 : w.heap.size < w1.heap.size := by omega
    have hz1 : w.heap.size + 1 < w1.heap.size := by omega
    go_wp2_with fail
    refine (H2.out _).mono ?_
    rintro e w2 ⟨rfl, hb2⟩
    obtain ⟨hc2, hf2, hs2⟩ := bcell hb2
    simp only [World.size_alloc] at hc2 hf2 hs2
    have hz2 : w.heap.size + 1 < w1.heap.size + 1 := by omega
    go_wp2
    exact bodyPost_ret (v := .tuple #[.agg #[.int .u64 x, .int .u64 y], .int .i64 z]) (by simp [results, Try.results197, go_sem, hc, hc2, hz1, hz2]) rfl ⟨rfl, (by repeat (first | assumption | exact Below.refl _ _ | refine Below.setCell ?_ (by first | omega | (simp; done) | (simp; omega)) _ | refine below_drewN ?_ _ | refine Below.drew ?_ | refine Below.alloc ?_ (by first | omega | (simp; done) | (simp; omega)) _ | refine Below.trans ?_ (Below.mono (by assumption) (by first | omega | (simp; done) | (simp; omega)))))⟩

set_option maxHeartbeats 400000 in
theorem sj_neg (h l n : Int) (w : World) (hn : n < 0) :
    Calls Try.prog 156 #[.agg #[.int .u64 h, .int .u64 l], .int .i64 n] w fun e w' =>
      e = .returned (.tuple #[.agg #[.int .u64 0, .int .u64 0], .int .i64 3]) ∧ Below w.heap.size w w' := by
  have H1 := hide (fun W => of_neg n W hn)
  go_enter Try.func156, Try.ntmps156
  go_wp2_with fail
  refine (H1.out _).mono ?_
  rintro e w1 ⟨rfl, hb⟩
  obtain ⟨hc, hf, hz⟩ := bcell hb
  simp only [World.size_alloc] at hc hf hz
  have hz1 : w.heap.size + 1 < w1.heap.size := by omega
  go_wp2
  exact bodyPost_ret (v := .tuple #[.agg #[.int .u64 0, .int .u64 0], .int .i64 3]) (by simp [results, Try.results156, go_sem, hc, hz1]) rfl ⟨rfl, (by repeat (first | assumption | exact Below.refl _ _ | refine Below.setCell ?_ (by first | omega | (simp; done) | (simp; omega)) _ | refine below_drewN ?_ _ | refine Below.drew ?_ | refine Below.alloc ?_ (by first | omega | (simp; done) | (simp; omega)) _ | refine Below.trans ?_ (Below.mono (by assumption) (by first | omega | (simp; done) | (simp; omega)))))⟩

set_option maxHeartbeats 400000 in
theorem sj_pos (h l n : Int) (w : World) (hl : 0 ≤ h) (hu : h < 18446744073709551616) (ll : 0 ≤ l) (lu : l < 18446744073709551616) (n0 : 0 ≤ n) (n1 : n ≤ 9223372036854775807) :
    Calls Try.prog 156 #[.agg #[.int .u64 h, .int .u64 l], .int .i64 n] w fun e w' =>
      e = .returned (wRes (h * 18446744073709551616 + l + n)) ∧ Below w.heap.size w w' := by
  have H1 := hide (fun W => of_pos n W n0 n1)
  have C2 := fun W => plus_any h l 0 n W hl hu ll lu (by decide) (by decide) n0 (by omega)
  rw [show h * 18446744073709551616 + l + (0 * 18446744073709551616 + n) = h * 18446744073709551616 + l + n by omega] at C2
  have H2 := hide C2
  clear C2
  unfold wRes at H2 ⊢
  generalize h * 18446744073709551616 + l + n = V at *
  generalize okN (V / 340282366920938463463374607431768211456) (V / 18446744073709551616 % 18446744073709551616) = x at *
  generalize okN (V / 340282366920938463463374607431768211456) (V % 18446744073709551616) = y at *
  generalize errN (V / 340282366920938463463374607431768211456) = z at *
  go_enter Try.func156, Try.ntmps156
  go_wp2_with fail
  refine (H1.out _).mono ?_
  rintro e w1 ⟨rfl, hb⟩
  obtain ⟨hc, hf, hz⟩ := bcell hb
  simp only [World.size_alloc] at hc hf hz
  have hz0 : w.heap.size < w1.heap.size := by omega
  have hz1 : w.heap.size + 1 < w1.heap.size := by omega
  go_wp2_with fail
  refine (H2.out _).mono ?_
  rintro e w2 ⟨rfl, hb2⟩
  obtain ⟨hc2, hf2, hs2⟩ := bcell hb2
  simp only [World.size_alloc] at hc2 hf2 hs2
  have hz2 : w.heap.size + 1 < w1.heap.size + 1 := by omega
  go_wp2
  exact bodyPost_ret (v := .tuple #[.agg #[.int .u64 x, .int .u64 y], .int .i64 z]) (by simp [results, Try.results156, go_sem, hc, hc2, hz1, hz2]) rfl ⟨rfl, (by repeat (first | assumption | exact Below.refl _ _ | refine Below.setCell ?_ (by first | omega | (simp; done) | (simp; omega)) _ | refine below_drewN ?_ _ | refine Below.drew ?_ | refine Below.alloc ?_ (by first | omega | (simp; done) | (simp; omega)) _ | refine Below.trans ?_ (Below.mono (by assumption) (by first | omega | (simp; done) | (simp; omega)))))⟩


/-- What is known at the head of a round of the fold. -/
def foldBMid (w : World) (A : Int) (wr : World) : Prop :=
  wr.heap[w.heap.size + 1]? = some (.cells #[.int .u64 0, .int .u64 0] 98 (0, 0)) ∧ wr.heap[w.heap.size + 1 + 1]? = some (.cells #[.int .u64 (A / 18446744073709551616), .int .u64 (A % 18446744073709551616)] 98 (0, 0)) ∧ Below w.heap.size w wr ∧ w.heap.size + 1 + 1 + 1 ≤ wr.heap.size
theorem foldBMid_below {w wr w1 : World} {A : Int} (h : foldBMid w A wr) (hb : Below wr.heap.size wr w1) : foldBMid w A w1 := by
  obtain ⟨h1, h2, h3, h4⟩ := h
  exact ⟨(hb.block _ (by omega)).trans h1, (hb.block _ (by omega)).trans h2, h3.trans (hb.mono h3.size), Nat.le_trans h4 hb.size⟩

set_option maxHeartbeats 1000000 in
theorem foldB (xs : List Int) (acc : Nat → Int) (stop : Nat) (code : Int) (a : Option Addr) (b off n cap : Nat) (w : World) (hn : n = xs.length) (hn63 : n ≤ 9223372036854775807)
    (ha : n = 0 ∨ a = some ⟨b, off, none⟩) (hcell : ∀ k, k < n → w.cell? ⟨b, off + k, none⟩ = some (.int .u8 (xs.getD k 0))) (hb : b < w.heap.size) (h0 : acc 0 = 0) (hs : stop ≤ n)
    (hok : ∀ k, k < stop → ∀ W, Calls Try.prog 197 #[.agg #[.int .u64 (acc k / 18446744073709551616), .int .u64 (acc k % 18446744073709551616)], .int .u8 (xs.getD k 0)] W fun e w' =>
      e = .returned (.tuple #[.agg #[.int .u64 (acc (k + 1) / 18446744073709551616), .int .u64 (acc (k + 1) % 18446744073709551616)], .int .i64 0]) ∧ Below W.heap.size W w')
    (hend : stop = n ∨ (stop < n ∧ (code != 0) = true ∧ ∀ W, Calls Try.prog 197 #[.agg #[.int .u64 (acc stop / 18446744073709551616), .int .u64 (acc stop % 18446744073709551616)], .int .u8 (xs.getD stop 0)] W fun e w' =>
      e = .returned (.tuple #[.agg #[.int .u64 0, .int .u64 0], .int .i64 code]) ∧ Below W.heap.size W w')) :
    Calls Try.prog 196 #[.slice a n cap, .agg #[.int .u64 0, .int .u64 0], .func (.func 197) #[] #[]] w fun e w' =>
      ((stop = n ∧ e = .returned (.tuple #[.agg #[.int .u64 (acc n / 18446744073709551616), .int .u64 (acc n % 18446744073709551616)], .int .i64 0])) ∨ (stop < n ∧ e = .returned (.tuple #[.agg #[.int .u64 0, .int .u64 0], .int .i64 code]))) ∧ Below w.heap.size w w' := by
  have HC := hide hcell
  have HO := hide hok
  have HE := hide hend
  have HA := hide ha
  have H0 := hide h0
  have HN := hide hn
  have hstart : foldBMid w (acc 0) (((w.alloc (.cells #[.int .u64 0, .int .u64 0] 98)).alloc (.cells #[.int .u64 0, .int .u64 0] 98)).alloc (.cells #[.int .u64 0, .int .u64 0] 98)) := by
    rw [h0]
    have h1 := World.alloc_heap_new (w.alloc (.cells #[.int .u64 0, .int .u64 0] 98)) (.cells #[.int .u64 0, .int .u64 0] 98)
    have h2 := World.alloc_heap_new ((w.alloc (.cells #[.int .u64 0, .int .u64 0] 98)).alloc (.cells #[.int .u64 0, .int .u64 0] 98)) (.cells #[.int .u64 0, .int .u64 0] 98)
    simp only [World.size_alloc] at h1 h2
    refine ⟨?_, h2, (by repeat (first | assumption | exact Below.refl _ _ | refine Below.setCell ?_ (by first | omega | (simp; done) | (simp; omega)) _ | refine below_drewN ?_ _ | refine Below.drew ?_ | refine Below.alloc ?_ (by first | omega | (simp; done) | (simp; omega)) _ | refine Below.trans ?_ (Below.mono (by assumption) (by first | omega | (simp; done) | (simp; omega))))), by simp⟩
    rw [Below.heap_alloc _ _ _ (by simp)]
    exact h1
  have HS := hide hstart
  clear hcell hok hend ha h0 hn hstart
  go_enter Try.func196, Try.ntmps196
  go_wp2
  go_loopw [17] (fun v wr => ∃ k : Nat, k ≤ stop ∧ v = .int .i64 k ∧ foldBMid w (acc k) wr) (fun v _ => n - (intOf v).toNat)
  case atStart => exact ⟨0, by omega, rfl, HS.out⟩
  case round =>
    obtain ⟨k, hk, rfl, hM⟩ := hrel
    have HM := hide hM
    obtain ⟨hr, hacc, hB, hz⟩ := hM
    obtain ⟨p0, p1, p2, p3⟩ := two_cells hacc
    by_cases hlt : k < stop
    · have hkn : k < n := by omega
      have hcl : wr.cell? ⟨b, off + k, none⟩ = some (.int .u8 (xs.getD k 0)) := (hB.cell (p := ⟨b, off + k, none⟩) hb).trans (HC.out k hkn)
      obtain rfl : a = some ⟨b, off, none⟩ := by rcases HA.out with h | h; omega; exact h
      have HX := hide (HO.out k hlt)
      obtain ⟨x, hx⟩ : ∃ x, x = xs.getD k 0 := ⟨_, rfl⟩
      rw [← hx] at hcl HX
      clear hx hr hacc
      obtain ⟨h1, eh1⟩ : ∃ x, x = acc (k + 1) / 18446744073709551616 := ⟨_, rfl⟩
      obtain ⟨l1, el1⟩ : ∃ x, x = acc (k + 1) % 18446744073709551616 := ⟨_, rfl⟩
      rw [← eh1, ← el1] at HX
      have EH := hide eh1
      have EL := hide el1
      clear eh1 el1
      go_wp2_with fail
      refine (HX.out _).mono ?_
      rintro e w1 ⟨rfl, hb1⟩
      have hM1 := foldBMid_below HM.out hb1
      have HM1 := hide hM1
      obtain ⟨hr, hacc, hB, hz⟩ := hM1
      clear p0 p1 p2 p3 hcl hb1
      obtain ⟨p0, p1, p2, p3⟩ := two_cells hacc
      have hz1 : w.heap.size + 1 + 1 < w1.heap.size := by omega
      have hz2 : ¬ w1.heap.size = w.heap.size + 1 + 1 := by omega
      have hz3 : ¬ w.heap.size + 1 + 1 = w1.heap.size := by omega
      clear hr hacc
      go_wp2
      go_roundw
      case rel =>
        refine ⟨k + 1, by omega, by go_num, ?_⟩
        have hp : foldBMid w (acc (k + 1)) ((w1.setCell ⟨w.heap.size + 1 + 1, 0, none⟩ (.int .u64 h1)).setCell ⟨w.heap.size + 1 + 1, 1, none⟩ (.int .u64 l1)) := by
          obtain ⟨g1, g2, g3, g4⟩ := HM1.out
          unfold foldBMid
          rw [← EH.out, ← EL.out]
          refine ⟨?_, two_put _ _ g2, (g3.setCell (p := ⟨w.heap.size + 1 + 1, 0, none⟩) (by show w.heap.size ≤ w.heap.size + 1 + 1; omega) _).setCell (p := ⟨w.heap.size + 1 + 1, 1, none⟩) (by show w.heap.size ≤ w.heap.size + 1 + 1; omega) _, by simpa using g4⟩
          rw [Below.heap_setCell _ _ _ _ (by show w.heap.size + 1 ≠ w.heap.size + 1 + 1; omega), Below.heap_setCell _ _ _ _ (by show w.heap.size + 1 ≠ w.heap.size + 1 + 1; omega)]
          exact g1
        exact foldBMid_below hp ((Below.refl _ _).alloc (Nat.le_refl _) _)
      case measure => simp [intOf]; omega
    · obtain rfl : k = stop := by omega
      rcases HE.out with hkn | ⟨hkn, hcode, hJ⟩
      · obtain ⟨r0, r1, r2, r3⟩ := two_cells hr
        obtain ⟨h1, eh1⟩ : ∃ x, x = acc k / 18446744073709551616 := ⟨_, rfl⟩
        obtain ⟨l1, el1⟩ : ∃ x, x = acc k % 18446744073709551616 := ⟨_, rfl⟩
        have fin : (k = n ∧ (Ending.returned (.tuple #[.agg #[.int .u64 h1, .int .u64 l1], .int .i64 0])) = .returned (.tuple #[.agg #[.int .u64 (acc n / 18446744073709551616), .int .u64 (acc n % 18446744073709551616)], .int .i64 0])) := ⟨hkn, by rw [← hkn, eh1, el1]⟩
        have FIN := hide fin
        rw [← eh1] at p0
        rw [← el1] at p1
        have hnk : ¬ k < n := by omega
        clear hr hacc eh1 el1 fin hkn HO HE hlt
        go_wp2
        exact bodyPost_ret (v := .tuple #[.agg #[.int .u64 h1, .int .u64 l1], .int .i64 0]) (by simp [results, Try.results196, go_sem, r0, r1]) rfl ⟨.inl FIN.out, (by repeat (first | assumption | exact Below.refl _ _ | refine Below.setCell ?_ (by first | omega | (simp; done) | (simp; omega)) _ | refine below_drewN ?_ _ | refine Below.drew ?_ | refine Below.alloc ?_ (by first | omega | (simp; done) | (simp; omega)) _ | refine Below.trans ?_ (Below.mono (by assumption) (by first | omega | (simp; done) | (simp; omega)))))⟩
      · have hcl : wr.cell? ⟨b, off + k, none⟩ = some (.int .u8 (xs.getD k 0)) := (hB.cell (p := ⟨b, off + k, none⟩) hb).trans (HC.out k hkn)
        obtain rfl : a = some ⟨b, off, none⟩ := by rcases HA.out with h | h; omega; exact h
        have HX := hide hJ
        obtain ⟨x, hx⟩ : ∃ x, x = xs.getD k 0 := ⟨_, rfl⟩
        rw [← hx] at hcl HX
        clear hx hr hacc hJ HE HO hlt
        go_wp2_with fail
        refine (HX.out _).mono ?_
        rintro e w1 ⟨rfl, hb1⟩
        have hM1 := foldBMid_below HM.out hb1
        obtain ⟨hr, hacc, hB1, hz1⟩ := hM1
        obtain ⟨r0, r1, r2, r3⟩ := two_cells hr
        have hz4 : w.heap.size + 1 < w1.heap.size := by omega
        have hz5 : ¬ w1.heap.size = w.heap.size + 1 := by omega
        have hz7 : w.heap.size + 1 < w1.heap.size + 1 := by omega
        have hz6 : ¬ w.heap.size + 1 = w1.heap.size := by omega
        clear p0 p1 p2 p3 hcl hb1 hr hacc
        have HK := hide hkn
        clear hkn
        go_wp2
        exact bodyPost_ret (v := .tuple #[.agg #[.int .u64 0, .int .u64 0], .int .i64 code]) (by simp [results, Try.results196, go_sem, r0, r1, hz4, hz7]) rfl ⟨.inr ⟨HK.out, rfl⟩, (by repeat (first | assumption | exact Below.refl _ _ | refine Below.setCell ?_ (by first | omega | (simp; done) | (simp; omega)) _ | refine below_drewN ?_ _ | refine Below.drew ?_ | refine Below.alloc ?_ (by first | omega | (simp; done) | (simp; omega)) _ | refine Below.trans ?_ (Below.mono (by assumption) (by first | omega | (simp; done) | (simp; omega)))))⟩

/-- What is known at the head of a round of the fold. -/
def foldIMid (w : World) (A : Int) (wr : World) : Prop :=
  wr.heap[w.heap.size + 1]? = some (.cells #[.int .u64 0, .int .u64 0] 98 (0, 0)) ∧ wr.heap[w.heap.size + 1 + 1]? = some (.cells #[.int .u64 (A / 18446744073709551616), .int .u64 (A % 18446744073709551616)] 98 (0, 0)) ∧ Below w.heap.size w wr ∧ w.heap.size + 1 + 1 + 1 ≤ wr.heap.size
theorem foldIMid_below {w wr w1 : World} {A : Int} (h : foldIMid w A wr) (hb : Below wr.heap.size wr w1) : foldIMid w A w1 := by
  obtain ⟨h1, h2, h3, h4⟩ := h
  exact ⟨(hb.block _ (by omega)).trans h1, (hb.block _ (by omega)).trans h2, h3.trans (hb.mono h3.size), Nat.le_trans h4 hb.size⟩

set_option maxHeartbeats 1000000 in
theorem foldI (xs : List Int) (acc : Nat → Int) (stop : Nat) (code : Int) (a : Option Addr) (b off n cap : Nat) (w : World) (hn : n = xs.length) (hn63 : n ≤ 9223372036854775807)
    (ha : n = 0 ∨ a = some ⟨b, off, none⟩) (hcell : ∀ k, k < n → w.cell? ⟨b, off + k, none⟩ = some (.int .i64 (xs.getD k 0))) (hb : b < w.heap.size) (h0 : acc 0 = 0) (hs : stop ≤ n)
    (hok : ∀ k, k < stop → ∀ W, Calls Try.prog 156 #[.agg #[.int .u64 (acc k / 18446744073709551616), .int .u64 (acc k % 18446744073709551616)], .int .i64 (xs.getD k 0)] W fun e w' =>
      e = .returned (.tuple #[.agg #[.int .u64 (acc (k + 1) / 18446744073709551616), .int .u64 (acc (k + 1) % 18446744073709551616)], .int .i64 0]) ∧ Below W.heap.size W w')
    (hend : stop = n ∨ (stop < n ∧ (code != 0) = true ∧ ∀ W, Calls Try.prog 156 #[.agg #[.int .u64 (acc stop / 18446744073709551616), .int .u64 (acc stop % 18446744073709551616)], .int .i64 (xs.getD stop 0)] W fun e w' =>
      e = .returned (.tuple #[.agg #[.int .u64 0, .int .u64 0], .int .i64 code]) ∧ Below W.heap.size W w')) :
    Calls Try.prog 155 #[.slice a n cap, .agg #[.int .u64 0, .int .u64 0], .func (.func 156) #[] #[]] w fun e w' =>
      ((stop = n ∧ e = .returned (.tuple #[.agg #[.int .u64 (acc n / 18446744073709551616), .int .u64 (acc n % 18446744073709551616)], .int .i64 0])) ∨ (stop < n ∧ e = .returned (.tuple #[.agg #[.int .u64 0, .int .u64 0], .int .i64 code]))) ∧ Below w.heap.size w w' := by
  have HC := hide hcell
  have HO := hide hok
  have HE := hide hend
  have HA := hide ha
  have H0 := hide h0
  have HN := hide hn
  have hstart : foldIMid w (acc 0) (((w.alloc (.cells #[.int .u64 0, .int .u64 0] 98)).alloc (.cells #[.int .u64 0, .int .u64 0] 98)).alloc (.cells #[.int .u64 0, .int .u64 0] 98)) := by
    rw [h0]
    have h1 := World.alloc_heap_new (w.alloc (.cells #[.int .u64 0, .int .u64 0] 98)) (.cells #[.int .u64 0, .int .u64 0] 98)
    have h2 := World.alloc_heap_new ((w.alloc (.cells #[.int .u64 0, .int .u64 0] 98)).alloc (.cells #[.int .u64 0, .int .u64 0] 98)) (.cells #[.int .u64 0, .int .u64 0] 98)
    simp only [World.size_alloc] at h1 h2
    refine ⟨?_, h2, (by repeat (first | assumption | exact Below.refl _ _ | refine Below.setCell ?_ (by first | omega | (simp; done) | (simp; omega)) _ | refine below_drewN ?_ _ | refine Below.drew ?_ | refine Below.alloc ?_ (by first | omega | (simp; done) | (simp; omega)) _ | refine Below.trans ?_ (Below.mono (by assumption) (by first | omega | (simp; done) | (simp; omega))))), by simp⟩
    rw [Below.heap_alloc _ _ _ (by simp)]
    exact h1
  have HS := hide hstart
  clear hcell hok hend ha h0 hn hstart
  go_enter Try.func155, Try.ntmps155
  go_wp2
  go_loopw [17] (fun v wr => ∃ k : Nat, k ≤ stop ∧ v = .int .i64 k ∧ foldIMid w (acc k) wr) (fun v _ => n - (intOf v).toNat)
  case atStart => exact ⟨0, by omega, rfl, HS.out⟩
  case round =>
    obtain ⟨k, hk, rfl, hM⟩ := hrel
    have HM := hide hM
    obtain ⟨hr, hacc, hB, hz⟩ := hM
    obtain ⟨p0, p1, p2, p3⟩ := two_cells hacc
    by_cases hlt : k < stop
    · have hkn : k < n := by omega
      have hcl : wr.cell? ⟨b, off + k, none⟩ = some (.int .i64 (xs.getD k 0)) := (hB.cell (p := ⟨b, off + k, none⟩) hb).trans (HC.out k hkn)
      obtain rfl : a = some ⟨b, off, none⟩ := by rcases HA.out with h | h; omega; exact h
      have HX := hide (HO.out k hlt)
      obtain ⟨x, hx⟩ : ∃ x, x = xs.getD k 0 := ⟨_, rfl⟩
      rw [← hx] at hcl HX
      clear hx hr hacc
      obtain ⟨h1, eh1⟩ : ∃ x, x = acc (k + 1) / 18446744073709551616 := ⟨_, rfl⟩
      obtain ⟨l1, el1⟩ : ∃ x, x = acc (k + 1) % 18446744073709551616 := ⟨_, rfl⟩
      rw [← eh1, ← el1] at HX
      have EH := hide eh1
      have EL := hide el1
      clear eh1 el1
      go_wp2_with fail
      refine (HX.out _).mono ?_
      rintro e w1 ⟨rfl, hb1⟩
      have hM1 := foldIMid_below HM.out hb1
      have HM1 := hide hM1
      obtain ⟨hr, hacc, hB, hz⟩ := hM1
      clear p0 p1 p2 p3 hcl hb1
      obtain ⟨p0, p1, p2, p3⟩ := two_cells hacc
      have hz1 : w.heap.size + 1 + 1 < w1.heap.size := by omega
      have hz2 : ¬ w1.heap.size = w.heap.size + 1 + 1 := by omega
      have hz3 : ¬ w.heap.size + 1 + 1 = w1.heap.size := by omega
      clear hr hacc
      go_wp2
      go_roundw
      case rel =>
        refine ⟨k + 1, by omega, by go_num, ?_⟩
        have hp : foldIMid w (acc (k + 1)) ((w1.setCell ⟨w.heap.size + 1 + 1, 0, none⟩ (.int .u64 h1)).setCell ⟨w.heap.size + 1 + 1, 1, none⟩ (.int .u64 l1)) := by
          obtain ⟨g1, g2, g3, g4⟩ := HM1.out
          unfold foldIMid
          rw [← EH.out, ← EL.out]
          refine ⟨?_, two_put _ _ g2, (g3.setCell (p := ⟨w.heap.size + 1 + 1, 0, none⟩) (by show w.heap.size ≤ w.heap.size + 1 + 1; omega) _).setCell (p := ⟨w.heap.size + 1 + 1, 1, none⟩) (by show w.heap.size ≤ w.heap.size + 1 + 1; omega) _, by simpa using g4⟩
          rw [Below.heap_setCell _ _ _ _ (by show w.heap.size + 1 ≠ w.heap.size + 1 + 1; omega), Below.heap_setCell _ _ _ _ (by show w.heap.size + 1 ≠ w.heap.size + 1 + 1; omega)]
          exact g1
        exact foldIMid_below hp ((Below.refl _ _).alloc (Nat.le_refl _) _)
      case measure => simp [intOf]; omega
    · obtain rfl : k = stop := by omega
      rcases HE.out with hkn | ⟨hkn, hcode, hJ⟩
      · obtain ⟨r0, r1, r2, r3⟩ := two_cells hr
        obtain ⟨h1, eh1⟩ : ∃ x, x = acc k / 18446744073709551616 := ⟨_, rfl⟩
        obtain ⟨l1, el1⟩ : ∃ x, x = acc k % 18446744073709551616 := ⟨_, rfl⟩
        have fin : (k = n ∧ (Ending.returned (.tuple #[.agg #[.int .u64 h1, .int .u64 l1], .int .i64 0])) = .returned (.tuple #[.agg #[.int .u64 (acc n / 18446744073709551616), .int .u64 (acc n % 18446744073709551616)], .int .i64 0])) := ⟨hkn, by rw [← hkn, eh1, el1]⟩
        have FIN := hide fin
        rw [← eh1] at p0
        rw [← el1] at p1
        have hnk : ¬ k < n := by omega
        clear hr hacc eh1 el1 fin hkn HO HE hlt
        go_wp2
        exact bodyPost_ret (v := .tuple #[.agg #[.int .u64 h1, .int .u64 l1], .int .i64 0]) (by simp [results, Try.results155, go_sem, r0, r1]) rfl ⟨.inl FIN.out, (by repeat (first | assumption | exact Below.refl _ _ | refine Below.setCell ?_ (by first | omega | (simp; done) | (simp; omega)) _ | refine below_drewN ?_ _ | refine Below.drew ?_ | refine Below.alloc ?_ (by first | omega | (simp; done) | (simp; omega)) _ | refine Below.trans ?_ (Below.mono (by assumption) (by first | omega | (simp; done) | (simp; omega)))))⟩
      · have hcl : wr.cell? ⟨b, off + k, none⟩ = some (.int .i64 (xs.getD k 0)) := (hB.cell (p := ⟨b, off + k, none⟩) hb).trans (HC.out k hkn)
        obtain rfl : a = some ⟨b, off, none⟩ := by rcases HA.out with h | h; omega; exact h
        have HX := hide hJ
        obtain ⟨x, hx⟩ : ∃ x, x = xs.getD k 0 := ⟨_, rfl⟩
        rw [← hx] at hcl HX
        clear hx hr hacc hJ HE HO hlt
        go_wp2_with fail
        refine (HX.out _).mono ?_
        rintro e w1 ⟨rfl, hb1⟩
        have hM1 := foldIMid_below HM.out hb1
        obtain ⟨hr, hacc, hB1, hz1⟩ := hM1
        obtain ⟨r0, r1, r2, r3⟩ := two_cells hr
        have hz4 : w.heap.size + 1 < w1.heap.size := by omega
        have hz5 : ¬ w1.heap.size = w.heap.size + 1 := by omega
        have hz7 : w.heap.size + 1 < w1.heap.size + 1 := by omega
        have hz6 : ¬ w.heap.size + 1 = w1.heap.size := by omega
        clear p0 p1 p2 p3 hcl hb1 hr hacc
        have HK := hide hkn
        clear hkn
        go_wp2
        exact bodyPost_ret (v := .tuple #[.agg #[.int .u64 0, .int .u64 0], .int .i64 code]) (by simp [results, Try.results155, go_sem, r0, r1, hz4, hz7]) rfl ⟨.inr ⟨HK.out, rfl⟩, (by repeat (first | assumption | exact Below.refl _ _ | refine Below.setCell ?_ (by first | omega | (simp; done) | (simp; omega)) _ | refine below_drewN ?_ _ | refine Below.drew ?_ | refine Below.alloc ?_ (by first | omega | (simp; done) | (simp; omega)) _ | refine Below.trans ?_ (Below.mono (by assumption) (by first | omega | (simp; done) | (simp; omega)))))⟩

end WideF
end Go.Proofs.Ytackcnncjeajpaa
