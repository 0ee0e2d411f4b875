/-
  Layer 1: WideTexts.
-/
import Derived.Test.YtefbgienbgcchaaWideZ
namespace Go.Proofs.Ytefbgienbgcchaa
open Go.RowKit Go.Shelf
namespace WideTT
open WideA WideB WideT WideI WideF WideG WideH WideK WideX WideY WideZ

theorem keepT {wA w' : World} {b0 b5 b6 b7 b8 : Nat} {ah al y0 y1 e k : Int} (F : Hid ((wA.cell? ⟨b0, 0, none⟩ = some (.int .u64 ah) ∧ wA.cell? ⟨b0, 1, none⟩ = some (.int .u64 al) ∧ wA.cell? ⟨b5, 0, none⟩ = some (.int .u64 y0) ∧ wA.cell? ⟨b5, 1, none⟩ = some (.int .u64 y1) ∧ wA.cell? ⟨b6, 0, none⟩ = some (.int .i64 e) ∧ wA.cell? ⟨b6, 1, none⟩ = some (.int .i64 k) ∧ wA.cell? ⟨b7, 0, none⟩ = some (.int .u64 y0) ∧ wA.cell? ⟨b7, 1, none⟩ = some (.int .u64 y1) ∧ wA.cell? ⟨b8, 0, none⟩ = some (.int .i64 e) ∧ wA.cell? ⟨b8, 1, none⟩ = some (.int .i64 k)) ∧ b0 < wA.heap.size ∧ b5 < wA.heap.size ∧ b6 < wA.heap.size ∧ b7 < wA.heap.size ∧ b8 < wA.heap.size)) (B : Below wA.heap.size wA w') : w'.cell? ⟨b0, 0, none⟩ = some (.int .u64 ah) ∧ w'.cell? ⟨b0, 1, none⟩ = some (.int .u64 al) ∧ w'.cell? ⟨b5, 0, none⟩ = some (.int .u64 y0) ∧ w'.cell? ⟨b5, 1, none⟩ = some (.int .u64 y1) ∧ w'.cell? ⟨b6, 0, none⟩ = some (.int .i64 e) ∧ w'.cell? ⟨b6, 1, none⟩ = some (.int .i64 k) ∧ w'.cell? ⟨b7, 0, none⟩ = some (.int .u64 y0) ∧ w'.cell? ⟨b7, 1, none⟩ = some (.int .u64 y1) ∧ w'.cell? ⟨b8, 0, none⟩ = some (.int .i64 e) ∧ w'.cell? ⟨b8, 1, none⟩ = some (.int .i64 k) ∧ Below wA.heap.size wA w' := by
  obtain ⟨⟨c0, c1, c2, c3, c4, c5, c6, c7, c8, c9⟩, zb0, zb5, zb6, zb7, zb8⟩ := F.out
  exact ⟨(B.cell (p := ⟨b0, 0, none⟩) zb0).trans c0, (B.cell (p := ⟨b0, 1, none⟩) zb0).trans c1, (B.cell (p := ⟨b5, 0, none⟩) zb5).trans c2, (B.cell (p := ⟨b5, 1, none⟩) zb5).trans c3, (B.cell (p := ⟨b6, 0, none⟩) zb6).trans c4, (B.cell (p := ⟨b6, 1, none⟩) zb6).trans c5, (B.cell (p := ⟨b7, 0, none⟩) zb7).trans c6, (B.cell (p := ⟨b7, 1, none⟩) zb7).trans c7, (B.cell (p := ⟨b8, 0, none⟩) zb8).trans c8, (B.cell (p := ⟨b8, 1, none⟩) zb8).trans c9, B⟩

set_option maxHeartbeats 1000000 in
theorem texts_long (ah al : Int) (s : ByteArray) (w : World) (hs : ¬ s.size ≤ 100) :
    Calls Try.prog 5 #[.agg #[.int .u64 ah, .int .u64 al], .string s] w fun e w' => e = .returned (.bool true) ∧ Below w.heap.size w w' := by
  have ss : decide (100 < (s.size : Int)) = true := by simp; omega
  clear hs
  go_enter Try.func5, Try.ntmps5
  go_wp2_with fail
  refine (awake_any _).mono ?_
  rintro e w1 ⟨rfl, hb⟩
  have hB : Below w.heap.size w w1 := (by repeat (first | assumption | exact Below.refl _ _ | refine Below.setCell ?_ (by first | omega | (simp; done) | (simp; omega)) _ | refine below_drewN ?_ _ | refine Below.drew ?_ | refine Below.alloc ?_ (by first | omega | (simp; done) | (simp; omega)) _ | refine Below.trans ?_ (Below.mono (by assumption) (by first | omega | (simp; done) | (simp; omega)))))
  clear hb
  go_wp2
  go_ret
  exact ⟨rfl, hB⟩

set_option maxRecDepth 100000 in
set_option maxHeartbeats 2000000 in
theorem texts_short (ah al y0 y1 e k : Int) (s tx : ByteArray) (w : World) (hs : s.size ≤ 100)
    (H1 : Hid (∀ W : World, Calls Try.prog 27 #[.string s] W fun e' w' => e' = .returned (.tuple #[.agg #[.int .u64 y0, .int .u64 y1], .agg #[.int .i64 e, .int .i64 k]]) ∧ Below W.heap.size W w'))
    (H2 : Hid (∀ W : World, Calls Try.prog 28 #[.string s] W fun e' w' => e' = .returned (.tuple #[.agg #[.int .u64 y0, .int .u64 y1], .agg #[.int .i64 e, .int .i64 k]]) ∧ Below W.heap.size W w'))
    (H3 : Hid (∀ W : World, Calls Try.prog 29 #[.agg #[.int .u64 ah, .int .u64 al]] W fun e' w' => e' = .returned (.string tx) ∧ Below W.heap.size W w'))
    (H4 : Hid (∀ W : World, Calls Try.prog 30 #[.agg #[.int .u64 ah, .int .u64 al]] W fun e' w' => e' = .returned (.string tx) ∧ Below W.heap.size W w')) :
    Calls Try.prog 5 #[.agg #[.int .u64 ah, .int .u64 al], .string s] w fun e w' => e = .returned (.bool true) ∧ Below w.heap.size w w' := by
  have t0 : (y0 == y0) = true := by simp
  have t1 : (y1 == y1) = true := by simp
  have t2 : (e == e) = true := by simp
  have t3 : (k == k) = true := by simp
  have t4 : (tx.toList == tx.toList) = true := by simp
  have ss : decide (100 < (s.size : Int)) = false := by simp; omega
  have ss2 : ¬ 100 < s.size := by omega
  clear hs
  go_enter Try.func5, Try.ntmps5
  go_wp2_with fail
  refine (H1.out _).mono ?_
  rintro e' w1 ⟨rfl, hb⟩
  have hs1 := hb.size
  simp only [World.size_alloc] at hs1
  have hB : Below w.heap.size w w1 := (by repeat (first | assumption | exact Below.refl _ _ | refine Below.setCell ?_ (by first | omega | (simp; done) | (simp; omega)) _ | refine below_drewN ?_ _ | refine Below.drew ?_ | refine Below.alloc ?_ (by first | omega | (simp; done) | (simp; omega)) _ | refine Below.trans ?_ (Below.mono (by assumption) (by first | omega | (simp; done) | (simp; omega)))))
  have c0 := (hb.cell (p := ⟨w.heap.size, 0, none⟩) (by first | (simp; done) | (simp; omega) | (dsimp only; omega))).trans (c := some (.int .u64 ah)) (by simp [go_sem])
  have c1 := (hb.cell (p := ⟨w.heap.size, 1, none⟩) (by first | (simp; done) | (simp; omega) | (dsimp only; omega))).trans (c := some (.int .u64 al)) (by simp [go_sem])
  have z0 : w.heap.size < w1.heap.size := by omega
  clear hb hs1
  go_wp2_with fail
  refine (H2.out _).mono ?_
  rintro e' w2 ⟨rfl, hb⟩
  have hs2 := hb.size
  simp only [World.size_alloc] at hs2
  have hB2 : Below w.heap.size w w2 := Below.trans (B := w.heap.size) (a := w) (b := _) (c := w2) ((hB.alloc (by omega) _).alloc (by simp; omega) _) (hb.mono (by simp; omega))
  have c2 := (hb.cell (p := ⟨w.heap.size, 0, none⟩) (by first | (simp; done) | (simp; omega) | (dsimp only; omega))).trans (c := some (.int .u64 ah)) (by simp [go_sem, c0, z0])
  have c3 := (hb.cell (p := ⟨w.heap.size, 1, none⟩) (by first | (simp; done) | (simp; omega) | (dsimp only; omega))).trans (c := some (.int .u64 al)) (by simp [go_sem, c1, z0])
  have d0 := (hb.cell (p := ⟨w1.heap.size, 0, none⟩) (by first | (simp; done) | (simp; omega) | (dsimp only; omega))).trans (c := some (.int .u64 y0)) (by simp [go_sem])
  have d1 := (hb.cell (p := ⟨w1.heap.size, 1, none⟩) (by first | (simp; done) | (simp; omega) | (dsimp only; omega))).trans (c := some (.int .u64 y1)) (by simp [go_sem])
  have f0 := (hb.cell (p := ⟨w1.heap.size + 1, 0, none⟩) (by first | (simp; done) | (simp; omega) | (dsimp only; omega))).trans (c := some (.int .i64 e)) (by simp [go_sem])
  have f1 := (hb.cell (p := ⟨w1.heap.size + 1, 1, none⟩) (by first | (simp; done) | (simp; omega) | (dsimp only; omega))).trans (c := some (.int .i64 k)) (by simp [go_sem])
  have z2 : w.heap.size < w2.heap.size := by omega
  have z3 : w1.heap.size < w2.heap.size := by omega
  have z4 : w1.heap.size + 1 < w2.heap.size := by omega
  clear hb hs2 c0 c1 z0 hB
  go_upto_region 5 with fail
  have BB : Below w2.heap.size w2 ((w2.alloc (.cells #[.int .u64 y0, .int .u64 y1] 24)).alloc (.cells #[.int .i64 e, .int .i64 k] 42)) := ((Below.refl _ _).alloc (Nat.le_refl _) _).alloc (by simp) _
  have HF : Hid ((((w2.alloc (.cells #[.int .u64 y0, .int .u64 y1] 24)).alloc (.cells #[.int .i64 e, .int .i64 k] 42)).cell? ⟨w.heap.size, 0, none⟩ = some (.int .u64 ah) ∧ ((w2.alloc (.cells #[.int .u64 y0, .int .u64 y1] 24)).alloc (.cells #[.int .i64 e, .int .i64 k] 42)).cell? ⟨w.heap.size, 1, none⟩ = some (.int .u64 al) ∧ ((w2.alloc (.cells #[.int .u64 y0, .int .u64 y1] 24)).alloc (.cells #[.int .i64 e, .int .i64 k] 42)).cell? ⟨w1.heap.size, 0, none⟩ = some (.int .u64 y0) ∧ ((w2.alloc (.cells #[.int .u64 y0, .int .u64 y1] 24)).alloc (.cells #[.int .i64 e, .int .i64 k] 42)).cell? ⟨w1.heap.size, 1, none⟩ = some (.int .u64 y1) ∧ ((w2.alloc (.cells #[.int .u64 y0, .int .u64 y1] 24)).alloc (.cells #[.int .i64 e, .int .i64 k] 42)).cell? ⟨w1.heap.size + 1, 0, none⟩ = some (.int .i64 e) ∧ ((w2.alloc (.cells #[.int .u64 y0, .int .u64 y1] 24)).alloc (.cells #[.int .i64 e, .int .i64 k] 42)).cell? ⟨w1.heap.size + 1, 1, none⟩ = some (.int .i64 k) ∧ ((w2.alloc (.cells #[.int .u64 y0, .int .u64 y1] 24)).alloc (.cells #[.int .i64 e, .int .i64 k] 42)).cell? ⟨w2.heap.size, 0, none⟩ = some (.int .u64 y0) ∧ ((w2.alloc (.cells #[.int .u64 y0, .int .u64 y1] 24)).alloc (.cells #[.int .i64 e, .int .i64 k] 42)).cell? ⟨w2.heap.size, 1, none⟩ = some (.int .u64 y1) ∧ ((w2.alloc (.cells #[.int .u64 y0, .int .u64 y1] 24)).alloc (.cells #[.int .i64 e, .int .i64 k] 42)).cell? ⟨w2.heap.size + 1, 0, none⟩ = some (.int .i64 e) ∧ ((w2.alloc (.cells #[.int .u64 y0, .int .u64 y1] 24)).alloc (.cells #[.int .i64 e, .int .i64 k] 42)).cell? ⟨w2.heap.size + 1, 1, none⟩ = some (.int .i64 k)) ∧ w.heap.size < ((w2.alloc (.cells #[.int .u64 y0, .int .u64 y1] 24)).alloc (.cells #[.int .i64 e, .int .i64 k] 42)).heap.size ∧ w1.heap.size < ((w2.alloc (.cells #[.int .u64 y0, .int .u64 y1] 24)).alloc (.cells #[.int .i64 e, .int .i64 k] 42)).heap.size ∧ w1.heap.size + 1 < ((w2.alloc (.cells #[.int .u64 y0, .int .u64 y1] 24)).alloc (.cells #[.int .i64 e, .int .i64 k] 42)).heap.size ∧ w2.heap.size < ((w2.alloc (.cells #[.int .u64 y0, .int .u64 y1] 24)).alloc (.cells #[.int .i64 e, .int .i64 k] 42)).heap.size ∧ w2.heap.size + 1 < ((w2.alloc (.cells #[.int .u64 y0, .int .u64 y1] 24)).alloc (.cells #[.int .i64 e, .int .i64 k] 42)).heap.size) :=
    hide ⟨⟨((BB.cell (p := ⟨w.heap.size, 0, none⟩) z2).trans c2), ((BB.cell (p := ⟨w.heap.size, 1, none⟩) z2).trans c3), ((BB.cell (p := ⟨w1.heap.size, 0, none⟩) z3).trans d0), ((BB.cell (p := ⟨w1.heap.size, 1, none⟩) z3).trans d1), ((BB.cell (p := ⟨w1.heap.size + 1, 0, none⟩) z4).trans f0), ((BB.cell (p := ⟨w1.heap.size + 1, 1, none⟩) z4).trans f1), ((((Below.refl _ _).alloc (Nat.le_refl _) _ : Below (w2.alloc (.cells #[.int .u64 y0, .int .u64 y1] 24)).heap.size (w2.alloc (.cells #[.int .u64 y0, .int .u64 y1] 24)) ((w2.alloc (.cells #[.int .u64 y0, .int .u64 y1] 24)).alloc (.cells #[.int .i64 e, .int .i64 k] 42))).cell (p := ⟨w2.heap.size, 0, none⟩) (by simp)).trans (by simp [go_sem])), ((((Below.refl _ _).alloc (Nat.le_refl _) _ : Below (w2.alloc (.cells #[.int .u64 y0, .int .u64 y1] 24)).heap.size (w2.alloc (.cells #[.int .u64 y0, .int .u64 y1] 24)) ((w2.alloc (.cells #[.int .u64 y0, .int .u64 y1] 24)).alloc (.cells #[.int .i64 e, .int .i64 k] 42))).cell (p := ⟨w2.heap.size, 1, none⟩) (by simp)).trans (by simp [go_sem])), (by simp [go_sem]), (by simp [go_sem])⟩, (by first | (simp; done) | (simp; omega)), (by first | (simp; done) | (simp; omega)), (by first | (simp; done) | (simp; omega)), (by first | (simp; done) | (simp; omega)), (by first | (simp; done) | (simp; omega))⟩
  have hBA : Below w.heap.size w ((w2.alloc (.cells #[.int .u64 y0, .int .u64 y1] 24)).alloc (.cells #[.int .i64 e, .int .i64 k] 42)) := (hB2.alloc (by omega) _).alloc (by simp; omega) _
  clear BB c2 c3 d0 d1 f0 f1 hB2 z2 z3 z4
  generalize (w2.alloc (.cells #[.int .u64 y0, .int .u64 y1] 24)).alloc (.cells #[.int .i64 e, .int .i64 k] 42) = wA at *
  obtain ⟨b5, hb5⟩ : ∃ b5, b5 = w1.heap.size := ⟨_, rfl⟩
  obtain ⟨b6, hb6⟩ : ∃ b6, b6 = w1.heap.size + 1 := ⟨_, rfl⟩
  obtain ⟨b7, hb7⟩ : ∃ b7, b7 = w2.heap.size := ⟨_, rfl⟩
  obtain ⟨b8, hb8⟩ : ∃ b8, b8 = w2.heap.size + 1 := ⟨_, rfl⟩
  rw [← hb6, ← hb5, ← hb8, ← hb7] at HF
  rw [← hb6, ← hb5, ← hb8, ← hb7]
  have HBA := hide hBA
  obtain ⟨⟨c0, c1, c2, c3, c4, c5, c6, c7, c8, c9⟩, _⟩ := HF.out
  clear hb5 hb6 hb7 hb8 hBA
  go_region_held3 (fun w' => w'.cell? ⟨w.heap.size, 0, none⟩ = some (.int .u64 ah) ∧ w'.cell? ⟨w.heap.size, 1, none⟩ = some (.int .u64 al) ∧ w'.cell? ⟨b5, 0, none⟩ = some (.int .u64 y0) ∧ w'.cell? ⟨b5, 1, none⟩ = some (.int .u64 y1) ∧ w'.cell? ⟨b6, 0, none⟩ = some (.int .i64 e) ∧ w'.cell? ⟨b6, 1, none⟩ = some (.int .i64 k) ∧ w'.cell? ⟨b7, 0, none⟩ = some (.int .u64 y0) ∧ w'.cell? ⟨b7, 1, none⟩ = some (.int .u64 y1) ∧ w'.cell? ⟨b8, 0, none⟩ = some (.int .i64 e) ∧ w'.cell? ⟨b8, 1, none⟩ = some (.int .i64 k) ∧ Below wA.heap.size wA w')
    (exact keepT HF (by repeat' (first | with_reducible assumption | with_reducible exact Below.refl _ _ | with_reducible refine Below.setCell ?_ ?_ _ | with_reducible refine below_drewN ?_ _ | with_reducible refine Below.drew ?_ | with_reducible refine Below.alloc ?_ ?_ _ | with_reducible refine Below.trans ?_ (Below.mono (by with_reducible assumption) ?_) | omega | (simp; done) | (simp; omega))))
    (first
      | (go_at_call 29; (with_reducible refine (H3.out _).mono ?_); rintro e' u1 ⟨rfl, hb⟩; have hB := Below.trans (B := wA.heap.size) (a := wA) (b := _) (c := u1) (by repeat' (first | with_reducible assumption | with_reducible exact Below.refl _ _ | with_reducible refine Below.setCell ?_ ?_ _ | with_reducible refine below_drewN ?_ _ | with_reducible refine Below.drew ?_ | with_reducible refine Below.alloc ?_ ?_ _ | with_reducible refine Below.trans ?_ (Below.mono (by with_reducible assumption) ?_) | omega | (simp; done) | (simp; omega))) (hb.mono (by first | (simp; done) | (simp; omega) | omega)); have := Below.size hB; clear hb)
      | (go_at_call 30; (with_reducible refine (H4.out _).mono ?_); rintro e' u2 ⟨rfl, hb⟩; have hB := Below.trans (B := wA.heap.size) (a := wA) (b := _) (c := u2) (by repeat' (first | with_reducible assumption | with_reducible exact Below.refl _ _ | with_reducible refine Below.setCell ?_ ?_ _ | with_reducible refine below_drewN ?_ _ | with_reducible refine Below.drew ?_ | with_reducible refine Below.alloc ?_ ?_ _ | with_reducible refine Below.trans ?_ (Below.mono (by with_reducible assumption) ?_) | omega | (simp; done) | (simp; omega))) (hb.mono (by first | (simp; done) | (simp; omega) | omega)); have := Below.size hB; clear hb)
      | (go_at_call 10; (with_reducible refine (awake_any _).mono ?_); rintro e' u3 ⟨rfl, hb⟩; have hB := Below.trans (B := wA.heap.size) (a := wA) (b := _) (c := u3) (by repeat' (first | with_reducible assumption | with_reducible exact Below.refl _ _ | with_reducible refine Below.setCell ?_ ?_ _ | with_reducible refine below_drewN ?_ _ | with_reducible refine Below.drew ?_ | with_reducible refine Below.alloc ?_ ?_ _ | with_reducible refine Below.trans ?_ (Below.mono (by with_reducible assumption) ?_) | omega | (simp; done) | (simp; omega))) (hb.mono (by first | (simp; done) | (simp; omega) | omega)); have := Below.size hB; clear hb))
  all_goals (go_wp2_with fail; go_ret; exact ⟨rfl, HBA.out.trans (Below.mono (B := wA.heap.size) (by repeat' (first | with_reducible assumption | with_reducible exact Below.refl _ _ | with_reducible refine Below.setCell ?_ ?_ _ | with_reducible refine below_drewN ?_ _ | with_reducible refine Below.drew ?_ | with_reducible refine Below.alloc ?_ ?_ _ | with_reducible refine Below.trans ?_ (Below.mono (by with_reducible assumption) ?_) | omega | (simp; done) | (simp; omega))) HBA.out.size)⟩)

theorem texts_any (ah al : Int) (s : ByteArray) (w : World) (ahl : 0 ≤ ah) (ahu : ah < 18446744073709551616) (all : 0 ≤ al) (alu : al < 18446744073709551616) :
    Calls Try.prog 5 #[.agg #[.int .u64 ah, .int .u64 al], .string s] w fun e w' => e = .returned (.bool true) ∧ Below w.heap.size w w' := by
  by_cases hs : s.size ≤ 100
  · exact texts_short ah al _ _ _ _ s _ w hs (hide (fun W => read_any s W (by omega))) (hide (fun W => rread_any s W (by omega))) (hide (fun W => text_any ah al W ahl ahu all alu)) (hide (fun W => rtext_any ah al W ahl ahu all alu))
  · exact texts_long ah al s w hs
end WideTT
end Go.Proofs.Ytefbgienbgcchaa
