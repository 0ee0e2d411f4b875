/-
  The document's Read of a wide.
-/
import Derived.Test.YtefbgienbgcchaaWideY
namespace Go.Proofs.Ytefbgienbgcchaa
open Go.RowKit Go.Shelf
namespace WideZ
open WideA WideB WideT WideI WideF WideG WideH WideK WideX WideY

set_option maxHeartbeats 4000000 in
theorem pass {W u : World} {B : Nat} (hb : Below W.heap.size W u) (hB : B < W.heap.size) : (∀ o, u.cell? ⟨B, o, none⟩ = W.cell? ⟨B, o, none⟩) ∧ (∀ o, u.frozen? ⟨B, o, none⟩ = W.frozen? ⟨B, o, none⟩) ∧ B < u.heap.size :=
  ⟨fun o => (bcell hb).1 B o hB, fun o => (bcell hb).2.1 B o hB, Nat.lt_of_lt_of_le hB hb.size⟩
theorem keep2 {wA w' : World} {b : Nat} {x0 x1 : Int} (c0 : Hid (wA.cell? ⟨b, 0, none⟩ = some (.int .u64 x0))) (c1 : Hid (wA.cell? ⟨b, 1, none⟩ = some (.int .u64 x1))) (z0 : Hid (b < wA.heap.size)) (B : Below wA.heap.size wA w') :
    w'.cell? ⟨b, 0, none⟩ = some (.int .u64 x0) ∧ w'.cell? ⟨b, 1, none⟩ = some (.int .u64 x1) ∧ Below wA.heap.size wA w' :=
  ⟨(B.cell (p := ⟨b, 0, none⟩) z0.out).trans c0.out, (B.cell (p := ⟨b, 1, none⟩) z0.out).trans c1.out, B⟩

/-- What stands between two rounds of Read's second loop. -/
def Rd (w : World) (s : ByteArray) (i : Value) (wr : World) : Prop :=
  ∃ k : Nat, k ≤ s.size ∧ i = .int .i64 (k : Int) ∧ 0 ≤ numTo (nums s) k ∧ numTo (nums s) k < 340282366920938463463374607431768211456 ∧ wr.heap[w.heap.size + 1 + 1]? = some (.cells #[.int .u64 (numTo (nums s) k / 18446744073709551616), .int .u64 (numTo (nums s) k % 18446744073709551616)] 24 (0, 0)) ∧
    wr.heap[w.heap.size]? = some (.cells #[.int .u64 0, .int .u64 0] 24 (0, 0)) ∧ wr.heap[w.heap.size + 1]? = some (.cells #[.int .i64 0, .int .i64 0] 42 (0, 0)) ∧ Below w.heap.size w wr ∧ w.heap.size + 1 + 1 < wr.heap.size
theorem round_facts (A d N : Int) (a0 : 0 ≤ A) (a1 : A < 340282366920938463463374607431768211456) (d2 : 0 ≤ d) (d3 : d ≤ 9) (hN : N = A * 10 + d)
    (T : ∀ W : World, Calls Try.prog 17 #[.agg #[.int .u64 (A / 18446744073709551616), .int .u64 (A % 18446744073709551616)], .int .i64 10] W fun e w' => e = .returned (wRes (A * 10)) ∧ Below W.heap.size W w') :
    ∃ x0 x1 ce y0 y1 cf : Int, Hid (∀ W : World, Calls Try.prog 17 #[.agg #[.int .u64 (A / 18446744073709551616), .int .u64 (A % 18446744073709551616)], .int .i64 10] W fun e w' => e = .returned (.tuple #[.agg #[.int .u64 x0, .int .u64 x1], .int .i64 ce]) ∧ Below W.heap.size W w') ∧
      Hid (∀ W : World, Calls Try.prog 15 #[.agg #[.int .u64 x0, .int .u64 x1], .agg #[.int .u64 0, .int .u64 d]] W fun e w' => e = .returned (.tuple #[.agg #[.int .u64 y0, .int .u64 y1], .int .i64 cf]) ∧ Below W.heap.size W w') ∧ Hid (0 ≤ x0 ∧ x0 < 18446744073709551616) ∧ Hid (0 ≤ x1 ∧ x1 < 18446744073709551616) ∧
      Hid ((ce = 0 ∧ cf = 0 ∧ y0 = N / 18446744073709551616 ∧ y1 = N % 18446744073709551616 ∧ 0 ≤ N ∧ N < 340282366920938463463374607431768211456) ∨ (ce = 0 ∧ cf = 7 ∧ 340282366920938463463374607431768211456 ≤ N) ∨ (ce = 7 ∧ 340282366920938463463374607431768211456 ≤ N)) := by
  by_cases h : A * 10 < 340282366920938463463374607431768211456
  · rw [wRes_ok (by omega) h] at T
    have Pl := fun W => WideR.rPlus (A * 10 / 18446744073709551616) (A * 10 % 18446744073709551616) 0 d W (by omega) (by omega) (by omega) (by omega) (by decide) (by decide) (by omega) (by omega)
    rw [show A * 10 / 18446744073709551616 * 18446744073709551616 + A * 10 % 18446744073709551616 + (0 * 18446744073709551616 + d) = N by omega] at Pl
    by_cases h2 : N < 340282366920938463463374607431768211456
    · rw [wRes_ok (by omega) h2] at Pl
      exact ⟨_, _, _, _, _, _, hide T, hide Pl, hide (by omega), hide (by omega), hide (.inl ⟨rfl, rfl, rfl, rfl, by omega, h2⟩)⟩
    · rw [wRes_full (by omega)] at Pl
      exact ⟨_, _, _, _, _, _, hide T, hide Pl, hide (by omega), hide (by omega), hide (.inr (.inl ⟨rfl, rfl, by omega⟩))⟩
  · rw [wRes_full (by omega)] at T
    have Pl := fun W => WideR.rPlus 0 0 0 d W (by decide) (by decide) (by decide) (by decide) (by decide) (by decide) (by omega) (by omega)
    rw [show (0 : Int) * 18446744073709551616 + 0 + (0 * 18446744073709551616 + d) = d by omega, wRes_ok (by omega) (by omega)] at Pl
    exact ⟨_, _, _, _, _, _, hide T, hide Pl, hide (by decide), hide (by decide), hide (.inr (.inr ⟨rfl, by omega⟩))⟩
/-- It ends. -/
theorem big_end (ds : List Int) (n k : Nat) (hd : ∀ j, j < n → 48 ≤ ds.getD j 0 ∧ ds.getD j 0 ≤ 57) (hk : k < n) (h : 340282366920938463463374607431768211456 ≤ numTo ds (k + 1)) : 340282366920938463463374607431768211456 ≤ numTo ds n := by
  have h1 := numTo_mono ds (k + 1) (n - (k + 1)) (fun i hi => hd i (by omega))
  rw [show k + 1 + (n - (k + 1)) = n by omega] at h1
  omega

set_option maxRecDepth 100000 in
set_option maxHeartbeats 1000000 in
theorem rread_ok (s : ByteArray) (rv re : Int) (w : World) (hs : s.size ≤ 9223372036854775807) (he : s.toList.isEmpty = false) (hpos : 0 < s.size)
    (HD : Hid (∀ k, k < s.size → 48 ≤ (nums s).getD k 0 ∧ (nums s).getD k 0 ≤ 57))
    (HV : Hid (((340282366920938463463374607431768211456 : Int) ≤ numOf (nums s) → rv = 0 ∧ re = 3) ∧ (numOf (nums s) < 340282366920938463463374607431768211456 → rv = numOf (nums s) ∧ re = 0)))
    (H4 : Hid (¬ (1 < s.size ∧ (s[0].toNat : Int) = 48))) :
    Calls Try.prog 28 #[.string s] w fun e w' => e = .returned (.tuple #[.agg #[.int .u64 (rv / 18446744073709551616), .int .u64 (rv % 18446744073709551616)], .agg #[.int .i64 re, .int .i64 0]]) ∧ Below w.heap.size w w' := by
  go_enter Try.func28, Try.ntmps28
  go_wp2_with fail
  go_loop [4] (fun i => ∃ k : Nat, k ≤ s.size ∧ i = .int .i64 (k : Int)) (fun i => s.size - (intOf i).toNat)
  case atStart => exact ⟨0, by omega, rfl⟩
  case round =>
    obtain ⟨k, hk, rfl⟩ := hrel
    by_cases hlt : k < s.size
    · have hg := nums_get s k hlt
      have hd := HD.out k hlt
      rw [hg] at hd
      obtain ⟨d0, d1⟩ := hd
      clear hg
      go_wp2
      go_round
      case rel => exact ⟨k + 1, by omega, by go_num⟩
      case measure => simp [intOf]; omega
    · obtain rfl : k = s.size := by omega
      have hs4 : 1 < s.size → ((s[0].toNat : Int) == 48) = false := fun h => by
        have : ¬ (s[0].toNat : Int) = 48 := fun h' => H4.out ⟨h, h'⟩
        simpa using this
      have hst : Rd w s (.int .i64 0) (((w.alloc (.cells #[.int .u64 0, .int .u64 0] 24)).alloc (.cells #[.int .i64 0, .int .i64 0] 42)).alloc (.cells #[.int .u64 0, .int .u64 0] 24)) := by
        refine ⟨0, by omega, rfl, Int.le_refl _, (by show (0 : Int) < 340282366920938463463374607431768211456; decide), ?_, ?_, ?_, (by repeat (first | assumption | exact Below.refl _ _ | refine Below.setCell ?_ (by first | omega | (simp; done) | (simp; omega)) _ | refine below_drewN ?_ _ | refine Below.drew ?_ | refine Below.alloc ?_ (by first | omega | (simp; done) | (simp; omega)) _ | refine Below.trans ?_ (Below.mono (by assumption) (by first | omega | (simp; done) | (simp; omega))))), by simp⟩
        · have := World.alloc_heap_new ((w.alloc (.cells #[.int .u64 0, .int .u64 0] 24)).alloc (.cells #[.int .i64 0, .int .i64 0] 42)) (.cells #[.int .u64 0, .int .u64 0] 24)
          rw [World.size_alloc, World.size_alloc] at this
          exact this
        · rw [Below.heap_alloc _ _ _ (by simp; omega), Below.heap_alloc _ _ _ (by simp)]
          exact World.alloc_heap_new w _
        · rw [Below.heap_alloc _ _ _ (by simp)]
          have := World.alloc_heap_new (w.alloc (.cells #[.int .u64 0, .int .u64 0] 24)) (.cells #[.int .i64 0, .int .i64 0] 42)
          rw [World.size_alloc] at this
          exact this
      have HST := hide hst
      clear hst
      have HS4 := hide hs4
      clear hs4
      by_cases hs1 : 1 < s.size
      all_goals
        first
          | have h6 := HS4.out hs1
          | skip
        go_wp2_with fail
        go_loopw [6] (fun i wr => Rd w s i wr) (fun i _ => s.size - (intOf i).toNat)
        case atStart => exact HST.out
        case round =>
          obtain ⟨k, hk, rfl, a0, a1, hout, hres, hflt, hB, hz⟩ := hrel
          by_cases hlt : k < s.size
          · obtain ⟨A, hA⟩ : ∃ A, A = numTo (nums s) k := ⟨_, rfl⟩
            rw [← hA] at a0 a1 hout
            have hg := nums_get s k hlt
            have hd := HD.out k hlt
            rw [hg] at hd
            obtain ⟨d0, d1⟩ := hd
            obtain ⟨d, hde⟩ : ∃ d, d = (s[k].toNat : Int) - 48 := ⟨_, rfl⟩
            have hstep : numTo (nums s) (k + 1) = A * 10 + d := by show numTo (nums s) k * 10 + ((nums s).getD k 0 - 48) = _; rw [hg, ← hA, hde]
            have d2 : 0 ≤ d := by omega
            have d3 : d ≤ 9 := by omega
            have T := fun W => WideR.rtimes_any (A / 18446744073709551616) (A % 18446744073709551616) 10 W (by omega) (by omega) (by omega) (by omega) (by decide) (by decide)
            rw [show (A / 18446744073709551616 * 18446744073709551616 + A % 18446744073709551616) * 10 = A * 10 by omega] at T
            obtain ⟨x0, x1, ce, y0, y1, cf, HTt, HPp, hx0, hx1, hres3⟩ : ∃ x0 x1 ce y0 y1 cf : Int, Hid (∀ W : World, Calls Try.prog 17 #[.agg #[.int .u64 (A / 18446744073709551616), .int .u64 (A % 18446744073709551616)], .int .i64 10] W fun e w' => e = .returned (.tuple #[.agg #[.int .u64 x0, .int .u64 x1], .int .i64 ce]) ∧ Below W.heap.size W w') ∧
                Hid (∀ W : World, Calls Try.prog 15 #[.agg #[.int .u64 x0, .int .u64 x1], .agg #[.int .u64 0, .int .u64 d]] W fun e w' => e = .returned (.tuple #[.agg #[.int .u64 y0, .int .u64 y1], .int .i64 cf]) ∧ Below W.heap.size W w') ∧ Hid (0 ≤ x0 ∧ x0 < 18446744073709551616) ∧ Hid (0 ≤ x1 ∧ x1 < 18446744073709551616) ∧
                Hid ((ce = 0 ∧ cf = 0 ∧ y0 = numTo (nums s) (k + 1) / 18446744073709551616 ∧ y1 = numTo (nums s) (k + 1) % 18446744073709551616 ∧ 0 ≤ numTo (nums s) (k + 1) ∧ numTo (nums s) (k + 1) < 340282366920938463463374607431768211456) ∨ (ce = 0 ∧ cf = 7 ∧ 340282366920938463463374607431768211456 ≤ numTo (nums s) (k + 1)) ∨ (ce = 7 ∧ 340282366920938463463374607431768211456 ≤ numTo (nums s) (k + 1))) := round_facts A d (numTo (nums s) (k + 1)) a0 a1 d2 d3 hstep T
            have cfv0 : (s[k].toNat : Int) - 48 = d := hde.symm
            have hw8 : IntKind.u8.wrap ((s[k].toNat : Int) - 48) = d := by rw [IntKind.wrap_u8]; omega
            have hw64 : IntKind.u64.wrap d = d := by rw [IntKind.wrap_u64]; omega
            have hw8b : IntKind.u8.wrap d = d := by rw [IntKind.wrap_u8]; omega
            have kb : (k : Int) < (s.size : Int) := by omega
            have HBw := hide hB
            clear hB
            have HX0 := hx0.out
            have HX1 := hx1.out
            obtain ⟨q0, q1, _, _⟩ := two_cells hout
            have HOUT := hide hout
            have HRES := hide hres
            have HFLT := hide hflt
            have HNS := hide hstep
            clear T hA hg hde hstep hout hres hflt
            rcases hres3.out with ⟨rfl, rfl, hy0, hy1, n0, n1⟩ | ⟨rfl, rfl, hbig⟩ | ⟨rfl, hbig⟩
            · have HY0 := hide hy0
              have HY1 := hide hy1
              have HNN := hide (And.intro n0 n1)
              clear hy0 hy1 n0 n1 hres3
              go_wp2_with fail
              refine (HTt.out _).mono ?_
              rintro e w1 ⟨rfl, hb⟩
              have hout1 := (hb.block _ hz).trans HOUT.out
              have hres1 := (hb.block _ (show w.heap.size < wr.heap.size by omega)).trans HRES.out
              have hflt1 := (hb.block _ (show w.heap.size + 1 < wr.heap.size by omega)).trans HFLT.out
              have hB1 := HBw.out.trans (hb.mono HBw.out.size)
              have hz1 : w.heap.size + 1 + 1 < w1.heap.size := by have := hb.size; omega
              have HB1 := hide hB1
              have HO1 := hide hout1
              have HS1 := hide hres1
              have HF1 := hide hflt1
              clear hb hB1 hout1 hres1 hflt1 q0 q1
              go_upto_region 15 with fail
              have c0 : (w1.alloc (.cells #[.int .u64 x0, .int .u64 x1] 24)).cell? ⟨w1.heap.size, 0, none⟩ = some (.int .u64 x0) := by simp [go_sem]
              have c1 : (w1.alloc (.cells #[.int .u64 x0, .int .u64 x1] 24)).cell? ⟨w1.heap.size, 1, none⟩ = some (.int .u64 x1) := by simp [go_sem]
              have z7 : w1.heap.size < (w1.alloc (.cells #[.int .u64 x0, .int .u64 x1] 24)).heap.size := by simp
              have hBA : Below w.heap.size w (w1.alloc (.cells #[.int .u64 x0, .int .u64 x1] 24)) := HB1.out.alloc (by have := HB1.out.size; omega) _
              have hoA := (Below.heap_alloc w1 (.cells #[.int .u64 x0, .int .u64 x1] 24) (w.heap.size + 1 + 1) hz1).trans HO1.out
              have hsA := (Below.heap_alloc w1 (.cells #[.int .u64 x0, .int .u64 x1] 24) w.heap.size (by omega)).trans HS1.out
              have hfA := (Below.heap_alloc w1 (.cells #[.int .u64 x0, .int .u64 x1] 24) (w.heap.size + 1) (by omega)).trans HF1.out
              have zA : w.heap.size + 1 + 1 < (w1.alloc (.cells #[.int .u64 x0, .int .u64 x1] 24)).heap.size := by simp; omega
              clear HB1 HO1 HS1 HF1
              generalize w1.alloc (.cells #[.int .u64 x0, .int .u64 x1] 24) = wA at *
              obtain ⟨b7, hb7⟩ : ∃ b7, b7 = w1.heap.size := ⟨_, rfl⟩
              rw [← hb7] at c0 c1 z7 ⊢
              have C0 := hide c0
              have C1 := hide c1
              have Z7 := hide z7
              have HBA := hide hBA
              have HOA := hide hoA
              have HSA := hide hsA
              have HFA := hide hfA
              clear hb7 hBA hoA hsA hfA
              go_cut [9, 10] (fun s9 s10 wx => ∃ p : Nat, s9 = .pointer (some ⟨p, 0, none⟩) ∧ s10 = .int .i64 0 ∧ wx.cell? ⟨p, 0, none⟩ = some (.int .u64 y0) ∧ wx.cell? ⟨p, 1, none⟩ = some (.int .u64 y1) ∧ p < wx.heap.size ∧ Below wA.heap.size wA wx)
              case first =>
                go_region_held3 (fun w' => w'.cell? ⟨b7, 0, none⟩ = some (.int .u64 x0) ∧ w'.cell? ⟨b7, 1, none⟩ = some (.int .u64 x1) ∧ Below wA.heap.size wA w')
                  (exact keep2 C0 C1 Z7 (by repeat' (first | with_reducible assumption | with_reducible exact Below.refl _ _ | with_reducible refine Below.setCell ?_ ?_ _ | with_reducible refine below_drewN ?_ _ | with_reducible refine Below.drew ?_ | with_reducible refine Below.alloc ?_ ?_ _ | with_reducible refine Below.trans ?_ (Below.mono (by with_reducible assumption) ?_) | omega | (simp; done) | (simp; omega))))
                  ((go_at_call 15; (with_reducible refine (HPp.out _).mono ?_); rintro e u1 ⟨rfl, hb⟩; (try (have PP := pass (B := wA.heap.size) hb (by first | (simp; done) | (simp; omega) | omega); obtain ⟨_, _, _⟩ := PP)); have hB := Below.trans (B := wA.heap.size) (a := wA) (b := _) (c := u1) (by repeat' (first | with_reducible assumption | with_reducible exact Below.refl _ _ | with_reducible refine Below.setCell ?_ ?_ _ | with_reducible refine below_drewN ?_ _ | with_reducible refine Below.drew ?_ | with_reducible refine Below.alloc ?_ ?_ _ | with_reducible refine Below.trans ?_ (Below.mono (by with_reducible assumption) ?_) | omega | (simp; done) | (simp; omega))) (hb.mono (by first | (simp; done) | (simp; omega) | omega)); have := Below.size hB; clear hb))
                all_goals (go_wp2_with fail; go_meet; refine ⟨_, rfl, rfl, ?_, ?_, ?_, (by repeat' (first | with_reducible assumption | with_reducible exact Below.refl _ _ | with_reducible refine Below.setCell ?_ ?_ _ | with_reducible refine below_drewN ?_ _ | with_reducible refine Below.drew ?_ | with_reducible refine Below.alloc ?_ ?_ _ | with_reducible refine Below.trans ?_ (Below.mono (by with_reducible assumption) ?_) | omega | (simp; done) | (simp; omega)))⟩ <;> first | (simp [go_sem]; done) | (simp [go_sem, *]; done) | (simp; omega))
              case rest =>
                obtain ⟨p, rfl, rfl, p0, p1, pz, hBx⟩ := hcut
                have ho2 := (hBx.block _ zA).trans HOA.out
                have hs2 := (hBx.block _ (show w.heap.size < wA.heap.size by omega)).trans HSA.out
                have hf2 := (hBx.block _ (show w.heap.size + 1 < wA.heap.size by omega)).trans HFA.out
                have hB2 := HBA.out.trans (hBx.mono HBA.out.size)
                have z2 : w.heap.size + 1 + 1 < wc.heap.size := by have := hBx.size; omega
                obtain ⟨q0, q1, g0, g1⟩ := two_cells ho2
                have HO2 := hide ho2
                have HS2 := hide hs2
                have HF2 := hide hf2
                clear ho2 hs2 hf2 hBx HOA HSA HFA HBA C0 C1 Z7
                go_wp2
                go_roundw
                case rel =>
                  refine ⟨k + 1, by omega, by go_num, HNN.out.1, HNN.out.2, ?_, ?_, ?_, (hB2.setCell (p := ⟨w.heap.size + 1 + 1, 0, none⟩) (by show w.heap.size ≤ w.heap.size + 1 + 1; omega) _).setCell (p := ⟨w.heap.size + 1 + 1, 1, none⟩) (by show w.heap.size ≤ w.heap.size + 1 + 1; omega) _, by simpa using z2⟩
                  · rw [← HY0.out, ← HY1.out]; exact two_put _ _ HO2.out
                  · rw [Below.heap_setCell _ _ _ _ (by show w.heap.size ≠ w.heap.size + 1 + 1; omega), Below.heap_setCell _ _ _ _ (by show w.heap.size ≠ w.heap.size + 1 + 1; omega)]; exact HS2.out
                  · rw [Below.heap_setCell _ _ _ _ (by show w.heap.size + 1 ≠ w.heap.size + 1 + 1; omega), Below.heap_setCell _ _ _ _ (by show w.heap.size + 1 ≠ w.heap.size + 1 + 1; omega)]; exact HF2.out
                case measure => simp [intOf]; omega
            · have hq := HV.out.1 (by unfold numOf; rw [nums_len]; exact big_end (nums s) s.size k HD.out hlt hbig)
              obtain ⟨rfl, rfl⟩ := hq
              clear hbig hres3 HV
              go_wp2_with fail
              refine (HTt.out _).mono ?_
              rintro e w1 ⟨rfl, hb⟩
              have hout1 := (hb.block _ hz).trans HOUT.out
              have hres1 := (hb.block _ (show w.heap.size < wr.heap.size by omega)).trans HRES.out
              have hflt1 := (hb.block _ (show w.heap.size + 1 < wr.heap.size by omega)).trans HFLT.out
              have hB1 := HBw.out.trans (hb.mono HBw.out.size)
              have hz1 : w.heap.size + 1 + 1 < w1.heap.size := by have := hb.size; omega
              have HB1 := hide hB1
              have HO1 := hide hout1
              have HS1 := hide hres1
              have HF1 := hide hflt1
              clear hb hB1 hout1 hres1 hflt1 q0 q1
              go_upto_region 15 with fail
              have c0 : (w1.alloc (.cells #[.int .u64 x0, .int .u64 x1] 24)).cell? ⟨w1.heap.size, 0, none⟩ = some (.int .u64 x0) := by simp [go_sem]
              have c1 : (w1.alloc (.cells #[.int .u64 x0, .int .u64 x1] 24)).cell? ⟨w1.heap.size, 1, none⟩ = some (.int .u64 x1) := by simp [go_sem]
              have z7 : w1.heap.size < (w1.alloc (.cells #[.int .u64 x0, .int .u64 x1] 24)).heap.size := by simp
              have hBA : Below w.heap.size w (w1.alloc (.cells #[.int .u64 x0, .int .u64 x1] 24)) := HB1.out.alloc (by have := HB1.out.size; omega) _
              have hoA := (Below.heap_alloc w1 (.cells #[.int .u64 x0, .int .u64 x1] 24) (w.heap.size + 1 + 1) hz1).trans HO1.out
              have hsA := (Below.heap_alloc w1 (.cells #[.int .u64 x0, .int .u64 x1] 24) w.heap.size (by omega)).trans HS1.out
              have hfA := (Below.heap_alloc w1 (.cells #[.int .u64 x0, .int .u64 x1] 24) (w.heap.size + 1) (by omega)).trans HF1.out
              have zA : w.heap.size + 1 + 1 < (w1.alloc (.cells #[.int .u64 x0, .int .u64 x1] 24)).heap.size := by simp; omega
              clear HB1 HO1 HS1 HF1
              generalize w1.alloc (.cells #[.int .u64 x0, .int .u64 x1] 24) = wA at *
              obtain ⟨b7, hb7⟩ : ∃ b7, b7 = w1.heap.size := ⟨_, rfl⟩
              rw [← hb7] at c0 c1 z7 ⊢
              have C0 := hide c0
              have C1 := hide c1
              have Z7 := hide z7
              have HBA := hide hBA
              have HOA := hide hoA
              have HSA := hide hsA
              have HFA := hide hfA
              clear hb7 hBA hoA hsA hfA
              go_cut [9, 10] (fun s9 s10 wx => ∃ p : Nat, s9 = .pointer (some ⟨p, 0, none⟩) ∧ s10 = .int .i64 7 ∧ wx.cell? ⟨p, 0, none⟩ = some (.int .u64 y0) ∧ wx.cell? ⟨p, 1, none⟩ = some (.int .u64 y1) ∧ p < wx.heap.size ∧ Below wA.heap.size wA wx)
              case first =>
                go_region_held3 (fun w' => w'.cell? ⟨b7, 0, none⟩ = some (.int .u64 x0) ∧ w'.cell? ⟨b7, 1, none⟩ = some (.int .u64 x1) ∧ Below wA.heap.size wA w')
                  (exact keep2 C0 C1 Z7 (by repeat' (first | with_reducible assumption | with_reducible exact Below.refl _ _ | with_reducible refine Below.setCell ?_ ?_ _ | with_reducible refine below_drewN ?_ _ | with_reducible refine Below.drew ?_ | with_reducible refine Below.alloc ?_ ?_ _ | with_reducible refine Below.trans ?_ (Below.mono (by with_reducible assumption) ?_) | omega | (simp; done) | (simp; omega))))
                  ((go_at_call 15; (with_reducible refine (HPp.out _).mono ?_); rintro e u1 ⟨rfl, hb⟩; (try (have PP := pass (B := wA.heap.size) hb (by first | (simp; done) | (simp; omega) | omega); obtain ⟨_, _, _⟩ := PP)); have hB := Below.trans (B := wA.heap.size) (a := wA) (b := _) (c := u1) (by repeat' (first | with_reducible assumption | with_reducible exact Below.refl _ _ | with_reducible refine Below.setCell ?_ ?_ _ | with_reducible refine below_drewN ?_ _ | with_reducible refine Below.drew ?_ | with_reducible refine Below.alloc ?_ ?_ _ | with_reducible refine Below.trans ?_ (Below.mono (by with_reducible assumption) ?_) | omega | (simp; done) | (simp; omega))) (hb.mono (by first | (simp; done) | (simp; omega) | omega)); have := Below.size hB; clear hb))
                all_goals (go_wp2_with fail; go_meet; refine ⟨_, rfl, rfl, ?_, ?_, ?_, (by repeat' (first | with_reducible assumption | with_reducible exact Below.refl _ _ | with_reducible refine Below.setCell ?_ ?_ _ | with_reducible refine below_drewN ?_ _ | with_reducible refine Below.drew ?_ | with_reducible refine Below.alloc ?_ ?_ _ | with_reducible refine Below.trans ?_ (Below.mono (by with_reducible assumption) ?_) | omega | (simp; done) | (simp; omega)))⟩ <;> first | (simp [go_sem]; done) | (simp [go_sem, *]; done) | (simp; omega))
              case rest =>
                obtain ⟨p, rfl, rfl, p0, p1, pz, hBx⟩ := hcut
                have ho2 := (hBx.block _ zA).trans HOA.out
                have hs2 := (hBx.block _ (show w.heap.size < wA.heap.size by omega)).trans HSA.out
                have hf2 := (hBx.block _ (show w.heap.size + 1 < wA.heap.size by omega)).trans HFA.out
                have hB2 := HBA.out.trans (hBx.mono HBA.out.size)
                have z2 : w.heap.size + 1 + 1 < wc.heap.size := by have := hBx.size; omega
                obtain ⟨q0, q1, g0, g1⟩ := two_cells ho2
                have HO2 := hide ho2
                have HS2 := hide hs2
                have HF2 := hide hf2
                clear ho2 hs2 hf2 hBx HOA HSA HFA HBA C0 C1 Z7
                obtain ⟨e0, e1, _, _⟩ := two_cells HS2.out
                obtain ⟨f0, f1, _, _⟩ := two_cells HF2.out
                go_wp2
                exact bodyPost_ret (v := .tuple #[.agg #[.int .u64 0, .int .u64 0], .agg #[.int .i64 3, .int .i64 0]]) (by simp [results, Try.results28, go_sem, e0, e1, f0, f1]) rfl ⟨rfl, (by repeat (first | assumption | exact Below.refl _ _ | refine Below.setCell ?_ (by first | omega | (simp; done) | (simp; omega)) _ | refine below_drewN ?_ _ | refine Below.drew ?_ | refine Below.alloc ?_ (by first | omega | (simp; done) | (simp; omega)) _ | refine Below.trans ?_ (Below.mono (by assumption) (by first | omega | (simp; done) | (simp; omega)))))⟩
            · have hq := HV.out.1 (by unfold numOf; rw [nums_len]; exact big_end (nums s) s.size k HD.out hlt hbig)
              obtain ⟨rfl, rfl⟩ := hq
              clear hbig hres3 HV
              go_wp2_with fail
              refine (HTt.out _).mono ?_
              rintro e w1 ⟨rfl, hb⟩
              have hout1 := (hb.block _ hz).trans HOUT.out
              have hres1 := (hb.block _ (show w.heap.size < wr.heap.size by omega)).trans HRES.out
              have hflt1 := (hb.block _ (show w.heap.size + 1 < wr.heap.size by omega)).trans HFLT.out
              have hB1 := HBw.out.trans (hb.mono HBw.out.size)
              have hz1 : w.heap.size + 1 + 1 < w1.heap.size := by have := hb.size; omega
              have HB1 := hide hB1
              have HO1 := hide hout1
              have HS1 := hide hres1
              have HF1 := hide hflt1
              clear hb hB1 hout1 hres1 hflt1 q0 q1
              go_upto_region 15 with fail
              have c0 : (w1.alloc (.cells #[.int .u64 x0, .int .u64 x1] 24)).cell? ⟨w1.heap.size, 0, none⟩ = some (.int .u64 x0) := by simp [go_sem]
              have c1 : (w1.alloc (.cells #[.int .u64 x0, .int .u64 x1] 24)).cell? ⟨w1.heap.size, 1, none⟩ = some (.int .u64 x1) := by simp [go_sem]
              have z7 : w1.heap.size < (w1.alloc (.cells #[.int .u64 x0, .int .u64 x1] 24)).heap.size := by simp
              have hBA : Below w.heap.size w (w1.alloc (.cells #[.int .u64 x0, .int .u64 x1] 24)) := HB1.out.alloc (by have := HB1.out.size; omega) _
              have hoA := (Below.heap_alloc w1 (.cells #[.int .u64 x0, .int .u64 x1] 24) (w.heap.size + 1 + 1) hz1).trans HO1.out
              have hsA := (Below.heap_alloc w1 (.cells #[.int .u64 x0, .int .u64 x1] 24) w.heap.size (by omega)).trans HS1.out
              have hfA := (Below.heap_alloc w1 (.cells #[.int .u64 x0, .int .u64 x1] 24) (w.heap.size + 1) (by omega)).trans HF1.out
              have zA : w.heap.size + 1 + 1 < (w1.alloc (.cells #[.int .u64 x0, .int .u64 x1] 24)).heap.size := by simp; omega
              clear HB1 HO1 HS1 HF1
              generalize w1.alloc (.cells #[.int .u64 x0, .int .u64 x1] 24) = wA at *
              obtain ⟨b7, hb7⟩ : ∃ b7, b7 = w1.heap.size := ⟨_, rfl⟩
              rw [← hb7] at c0 c1 z7 ⊢
              have C0 := hide c0
              have C1 := hide c1
              have Z7 := hide z7
              have HBA := hide hBA
              have HOA := hide hoA
              have HSA := hide hsA
              have HFA := hide hfA
              clear hb7 hBA hoA hsA hfA
              go_cut [9, 10] (fun s9 s10 wx => ∃ p : Nat, s9 = .pointer (some ⟨p, 0, none⟩) ∧ s10 = .int .i64 cf ∧ wx.cell? ⟨p, 0, none⟩ = some (.int .u64 y0) ∧ wx.cell? ⟨p, 1, none⟩ = some (.int .u64 y1) ∧ p < wx.heap.size ∧ Below wA.heap.size wA wx)
              case first =>
                go_region_held3 (fun w' => w'.cell? ⟨b7, 0, none⟩ = some (.int .u64 x0) ∧ w'.cell? ⟨b7, 1, none⟩ = some (.int .u64 x1) ∧ Below wA.heap.size wA w')
                  (exact keep2 C0 C1 Z7 (by repeat' (first | with_reducible assumption | with_reducible exact Below.refl _ _ | with_reducible refine Below.setCell ?_ ?_ _ | with_reducible refine below_drewN ?_ _ | with_reducible refine Below.drew ?_ | with_reducible refine Below.alloc ?_ ?_ _ | with_reducible refine Below.trans ?_ (Below.mono (by with_reducible assumption) ?_) | omega | (simp; done) | (simp; omega))))
                  ((go_at_call 15; (with_reducible refine (HPp.out _).mono ?_); rintro e u1 ⟨rfl, hb⟩; (try (have PP := pass (B := wA.heap.size) hb (by first | (simp; done) | (simp; omega) | omega); obtain ⟨_, _, _⟩ := PP)); have hB := Below.trans (B := wA.heap.size) (a := wA) (b := _) (c := u1) (by repeat' (first | with_reducible assumption | with_reducible exact Below.refl _ _ | with_reducible refine Below.setCell ?_ ?_ _ | with_reducible refine below_drewN ?_ _ | with_reducible refine Below.drew ?_ | with_reducible refine Below.alloc ?_ ?_ _ | with_reducible refine Below.trans ?_ (Below.mono (by with_reducible assumption) ?_) | omega | (simp; done) | (simp; omega))) (hb.mono (by first | (simp; done) | (simp; omega) | omega)); have := Below.size hB; clear hb))
                all_goals (go_wp2_with fail; go_meet; refine ⟨_, rfl, rfl, ?_, ?_, ?_, (by repeat' (first | with_reducible assumption | with_reducible exact Below.refl _ _ | with_reducible refine Below.setCell ?_ ?_ _ | with_reducible refine below_drewN ?_ _ | with_reducible refine Below.drew ?_ | with_reducible refine Below.alloc ?_ ?_ _ | with_reducible refine Below.trans ?_ (Below.mono (by with_reducible assumption) ?_) | omega | (simp; done) | (simp; omega)))⟩ <;> first | (simp [go_sem]; done) | (simp [go_sem, *]; done) | (simp; omega))
              case rest =>
                obtain ⟨p, rfl, rfl, p0, p1, pz, hBx⟩ := hcut
                have ho2 := (hBx.block _ zA).trans HOA.out
                have hs2 := (hBx.block _ (show w.heap.size < wA.heap.size by omega)).trans HSA.out
                have hf2 := (hBx.block _ (show w.heap.size + 1 < wA.heap.size by omega)).trans HFA.out
                have hB2 := HBA.out.trans (hBx.mono HBA.out.size)
                have z2 : w.heap.size + 1 + 1 < wc.heap.size := by have := hBx.size; omega
                obtain ⟨q0, q1, g0, g1⟩ := two_cells ho2
                have HO2 := hide ho2
                have HS2 := hide hs2
                have HF2 := hide hf2
                clear ho2 hs2 hf2 hBx HOA HSA HFA HBA C0 C1 Z7
                obtain ⟨e0, e1, _, _⟩ := two_cells HS2.out
                obtain ⟨f0, f1, _, _⟩ := two_cells HF2.out
                go_wp2
                exact bodyPost_ret (v := .tuple #[.agg #[.int .u64 0, .int .u64 0], .agg #[.int .i64 3, .int .i64 0]]) (by simp [results, Try.results28, go_sem, e0, e1, f0, f1]) rfl ⟨rfl, (by repeat (first | assumption | exact Below.refl _ _ | refine Below.setCell ?_ (by first | omega | (simp; done) | (simp; omega)) _ | refine below_drewN ?_ _ | refine Below.drew ?_ | refine Below.alloc ?_ (by first | omega | (simp; done) | (simp; omega)) _ | refine Below.trans ?_ (Below.mono (by assumption) (by first | omega | (simp; done) | (simp; omega)))))⟩
          · obtain rfl : k = s.size := by omega
            have hnum : numOf (nums s) = numTo (nums s) s.size := by unfold numOf; rw [nums_len]
            have hq := HV.out.2 (by rw [hnum]; exact a1)
            rw [hnum] at hq
            obtain ⟨A, hA⟩ : ∃ A, A = numTo (nums s) s.size := ⟨_, rfl⟩
            rw [← hA] at hq hout a0 a1
            obtain ⟨rfl, rfl⟩ := hq
            obtain ⟨q0, q1, _, _⟩ := two_cells hout
            obtain ⟨e0, e1, _, _⟩ := two_cells hres
            obtain ⟨f0, f1, _, _⟩ := two_cells hflt
            clear hout hres hflt hA hnum HV
            go_wp2
            exact bodyPost_ret (v := .tuple #[.agg #[.int .u64 (rv / 18446744073709551616), .int .u64 (rv % 18446744073709551616)], .agg #[.int .i64 0, .int .i64 0]]) (by simp [results, Try.results28, go_sem, e0, e1, f0, f1]) rfl ⟨rfl, (by repeat (first | assumption | exact Below.refl _ _ | refine Below.setCell ?_ (by first | omega | (simp; done) | (simp; omega)) _ | refine below_drewN ?_ _ | refine Below.drew ?_ | refine Below.alloc ?_ (by first | omega | (simp; done) | (simp; omega)) _ | refine Below.trans ?_ (Below.mono (by assumption) (by first | omega | (simp; done) | (simp; omega)))))⟩
set_option maxRecDepth 100000 in
set_option maxHeartbeats 4000000 in
theorem rread_any (s : ByteArray) (w : World) (hs : s.size ≤ 9223372036854775807) :
    Calls Try.prog 28 #[.string s] w fun e w' => e = .returned (readRes (nums s)) ∧ Below w.heap.size w w' := by
  unfold readRes
  have hle := nd_le (nums s)
  rw [nums_len] at hle
  by_cases h0 : s.size = 0
  · have e1 : readV (nums s) = 0 := by unfold readV; rw [nums_len, if_pos h0]
    have e2 : readE (nums s) = 6 := by unfold readE; rw [nums_len, if_pos h0]
    have e3 : readAt (nums s) = 0 := by unfold readAt; rw [nums_len, if_pos h0]
    rw [e1, e2, e3]
    have he : s.toList.isEmpty = true := by rw [empty_iff]; simp [h0]
    have he2 : s.toList = [] := by simpa using he
    clear e1 e2 e3 h0 hle
    go_enter Try.func28, Try.ntmps28
    go_wp2
    exact bodyPost_ret (v := .tuple #[.agg #[.int .u64 0, .int .u64 0], .agg #[.int .i64 6, .int .i64 0]]) (by simp [results, Try.results28, go_sem]) rfl ⟨rfl, (by repeat (first | assumption | exact Below.refl _ _ | refine Below.setCell ?_ (by first | omega | (simp; done) | (simp; omega)) _ | refine below_drewN ?_ _ | refine Below.drew ?_ | refine Below.alloc ?_ (by first | omega | (simp; done) | (simp; omega)) _ | refine Below.trans ?_ (Below.mono (by assumption) (by first | omega | (simp; done) | (simp; omega)))))⟩
  have he : s.toList.isEmpty = false := by rw [empty_iff]; simp [h0]
  have he2 : ¬ s.toList = [] := by intro h; rw [h] at he; cases he
  by_cases h1 : nd (nums s) < s.size
  · have e1 : readV (nums s) = 0 := by unfold readV; rw [nums_len, if_neg h0, if_pos h1]
    have e2 : readE (nums s) = 5 := by unfold readE; rw [nums_len, if_neg h0, if_pos h1]
    have e3 : readAt (nums s) = nd (nums s) := by unfold readAt; rw [nums_len, if_neg h0, if_pos h1]
    rw [e1, e2, e3]
    have hdig := fun k (hk : k < nd (nums s)) => nd_digit _ k hk
    have hstop := nd_stop (nums s) (by rw [nums_len]; exact h1)
    have HDG := hide hdig
    have HSP := hide hstop
    clear e1 e2 e3 h0 hle hdig hstop
    generalize hn : nd (nums s) = n at *
    have HNN := hide hn
    clear hn
    go_enter Try.func28, Try.ntmps28
    go_wp2_with fail
    go_loop [4] (fun i => ∃ k : Nat, k ≤ n ∧ i = .int .i64 (k : Int)) (fun i => s.size - (intOf i).toNat)
    case atStart => exact ⟨0, by omega, rfl⟩
    case round =>
      obtain ⟨k, hk, rfl⟩ := hrel
      have hlt : k < s.size := by omega
      have hg := nums_get s k hlt
      by_cases hkn : k < n
      · have hd := HDG.out k hkn
        rw [hg] at hd
        obtain ⟨d0, d1⟩ := hd
        clear hg
        go_wp2
        go_round
        case rel => exact ⟨k + 1, by omega, by go_num⟩
        case measure => simp [intOf]; omega
      · obtain rfl : k = n := by omega
        have hd := HSP.out
        rw [hg] at hd
        clear hg hkn
        by_cases hd0 : ((s[k].toNat : Int)) < 48
        · clear hd
          go_wp2
          exact bodyPost_ret (v := .tuple #[.agg #[.int .u64 0, .int .u64 0], .agg #[.int .i64 5, .int .i64 (k : Int)]]) (by simp [results, Try.results28, go_sem]) rfl ⟨rfl, (by repeat (first | assumption | exact Below.refl _ _ | refine Below.setCell ?_ (by first | omega | (simp; done) | (simp; omega)) _ | refine below_drewN ?_ _ | refine Below.drew ?_ | refine Below.alloc ?_ (by first | omega | (simp; done) | (simp; omega)) _ | refine Below.trans ?_ (Below.mono (by assumption) (by first | omega | (simp; done) | (simp; omega)))))⟩
        · have hd1 : 57 < (s[k].toNat : Int) := by omega
          clear hd
          go_wp2
          exact bodyPost_ret (v := .tuple #[.agg #[.int .u64 0, .int .u64 0], .agg #[.int .i64 5, .int .i64 (k : Int)]]) (by simp [results, Try.results28, go_sem]) rfl ⟨rfl, (by repeat (first | assumption | exact Below.refl _ _ | refine Below.setCell ?_ (by first | omega | (simp; done) | (simp; omega)) _ | refine below_drewN ?_ _ | refine Below.drew ?_ | refine Below.alloc ?_ (by first | omega | (simp; done) | (simp; omega)) _ | refine Below.trans ?_ (Below.mono (by assumption) (by first | omega | (simp; done) | (simp; omega)))))⟩
  have h2 : nd (nums s) = s.size := by omega
  have hd : ∀ k, k < s.size → 48 ≤ (nums s).getD k 0 ∧ (nums s).getD k 0 ≤ 57 := fun k hk => nd_digit _ k (by omega)
  have r3 : readAt (nums s) = 0 := by unfold readAt; rw [nums_len, if_neg h0, if_neg h1]
  have hpos : 0 < s.size := by omega
  have g0 := nums_get s 0 hpos
  rw [r3]
  have HD := hide hd
  by_cases h3 : 1 < s.size ∧ (nums s).getD 0 0 = 48
  · have e1 : readV (nums s) = 0 := by unfold readV; rw [nums_len, if_neg h0, if_neg h1, if_pos h3]
    have e2 : readE (nums s) = 5 := by unfold readE; rw [nums_len, if_neg h0, if_neg h1, if_pos h3]
    rw [e1, e2]
    obtain ⟨h3, h4⟩ := h3
    rw [g0] at h4
    have H4 := hide h4
    clear e1 e2 h0 hle h1 h2 hd r3 g0 h4
    go_enter Try.func28, Try.ntmps28
    go_wp2_with fail
    go_loop [4] (fun i => ∃ k : Nat, k ≤ s.size ∧ i = .int .i64 (k : Int)) (fun i => s.size - (intOf i).toNat)
    case atStart => exact ⟨0, by omega, rfl⟩
    case round =>
      obtain ⟨k, hk, rfl⟩ := hrel
      by_cases hlt : k < s.size
      · have hg := nums_get s k hlt
        have hd := HD.out k hlt
        rw [hg] at hd
        obtain ⟨d0, d1⟩ := hd
        clear hg
        go_wp2
        go_round
        case rel => exact ⟨k + 1, by omega, by go_num⟩
        case measure => simp [intOf]; omega
      · obtain rfl : k = s.size := by omega
        have h4 : ((s[0].toNat : Int) == 48) = true := by rw [H4.out]; rfl
        have h5 : ((s[0].toNat : Int) = 48) := H4.out
        go_wp2
        exact bodyPost_ret (v := .tuple #[.agg #[.int .u64 0, .int .u64 0], .agg #[.int .i64 5, .int .i64 0]]) (by simp [results, Try.results28, go_sem]) rfl ⟨rfl, (by repeat (first | assumption | exact Below.refl _ _ | refine Below.setCell ?_ (by first | omega | (simp; done) | (simp; omega)) _ | refine below_drewN ?_ _ | refine Below.drew ?_ | refine Below.alloc ?_ (by first | omega | (simp; done) | (simp; omega)) _ | refine Below.trans ?_ (Below.mono (by assumption) (by first | omega | (simp; done) | (simp; omega)))))⟩
  have h4 : ¬ (1 < s.size ∧ (s[0].toNat : Int) = 48) := by rw [← g0]; exact h3
  have HV : Hid (((340282366920938463463374607431768211456 : Int) ≤ numOf (nums s) → readV (nums s) = 0 ∧ readE (nums s) = 3) ∧ (numOf (nums s) < 340282366920938463463374607431768211456 → readV (nums s) = numOf (nums s) ∧ readE (nums s) = 0)) := by
    refine hide ⟨fun h => ?_, fun h => ?_⟩
    · unfold readV readE
      rw [nums_len, if_neg h0, if_neg h1, if_neg h3, if_pos h, if_neg h0, if_neg h1, if_neg h3, if_pos h]
      exact ⟨rfl, rfl⟩
    · have h' : ¬ (340282366920938463463374607431768211456 : Int) ≤ numOf (nums s) := by omega
      unfold readV readE
      rw [nums_len, if_neg h0, if_neg h1, if_neg h3, if_neg h', if_neg h0, if_neg h1, if_neg h3, if_neg h']
      exact ⟨rfl, rfl⟩
  exact rread_ok s _ _ w hs he hpos HD HV (hide h4)
end WideZ
end Go.Proofs.Ytefbgienbgcchaa
