/-
  Layer 1: WideBack.
-/
import Derived.Test.YtcokhdajdnkinaaWideK
import Derived.Test.YtcokhdajdnkinaaBackM
namespace Go.Proofs.Ytcokhdajdnkinaa
open Go.RowKit Go.Shelf
namespace WideO
open WideA WideB WideT WideI WideF WideG WideH WideK BackM

theorem ord_cases (t u : ByteArray) : (t.size < u.size ∧ ord t u = -1) ∨ ((t.size = u.size ∧ Op.bytesLess t.toList u.toList = true) ∧ ord t u = -1) ∨ ((t.size = u.size ∧ Op.bytesLess t.toList u.toList = false ∧ (t.toList == u.toList) = true) ∧ ord t u = 0) ∨ ((t.size = u.size ∧ Op.bytesLess t.toList u.toList = false ∧ (t.toList == u.toList) = false) ∧ ord t u = 1) ∨ ((u.size < t.size ∧ (t.toList == u.toList) = false) ∧ ord t u = 1) := by
  unfold ord
  rcases Nat.lt_trichotomy t.size u.size with h | h | h
  · exact .inl ⟨h, by rw [if_pos (.inl h)]⟩
  · cases hb : Op.bytesLess t.toList u.toList with
    | true => exact .inr (.inl ⟨⟨h, rfl⟩, by rw [if_pos (.inr ⟨h, rfl⟩)]⟩)
    | false =>
      have hn : ¬ (t.size < u.size ∨ (t.size = u.size ∧ false = true)) := by simp; omega
      by_cases he : t.toList = u.toList
      · exact .inr (.inr (.inl ⟨⟨h, rfl, by simp [he]⟩, by rw [if_neg hn, if_pos he]⟩))
      · exact .inr (.inr (.inr (.inl ⟨⟨h, rfl, by simp [he]⟩, by rw [if_neg hn, if_neg he]⟩)))
  · have he : t.toList ≠ u.toList := by
      intro he
      rw [ByteArray.toList_eq, ByteArray.toList_eq] at he
      have := congrArg List.length he
      simp at this
      omega
    have hn : ¬ (t.size < u.size ∨ (t.size = u.size ∧ Op.bytesLess t.toList u.toList = true)) := by omega
    exact .inr (.inr (.inr (.inr ⟨⟨h, by simp [he]⟩, by rw [if_neg hn, if_neg he]⟩)))

set_option maxRecDepth 100000 in
set_option maxHeartbeats 4000000 in
theorem ba0 (ah al bh bl yh yl _ge _gat o : Int) (s t u : ByteArray) (w : World) (hs : s.size ≤ 100) (ho : ord t u = o)
    (HT : Hid (∀ W : World, Calls Try.prog 29 #[.agg #[.int .u64 ah, .int .u64 al]] W fun e w' => e = .returned (.string t) ∧ Below W.heap.size W w'))
(HU : Hid (∀ W : World, Calls Try.prog 29 #[.agg #[.int .u64 bh, .int .u64 bl]] W fun e w' => e = .returned (.string u) ∧ Below W.heap.size W w'))
(HR : Hid (∀ W : World, Calls Try.prog 27 #[.string t] W fun e w' => e = .returned (.tuple #[.agg #[.int .u64 ah, .int .u64 al], .agg #[.int .i64 0, .int .i64 0]]) ∧ Below W.heap.size W w'))
(HS : Hid (∀ W : World, Calls Try.prog 27 #[.string s] W fun e w' => e = .returned (.tuple #[.agg #[.int .u64 yh, .int .u64 yl], .agg #[.int .i64 0, .int .i64 0]]) ∧ Below W.heap.size W w'))
(HY : Hid (∀ W : World, Calls Try.prog 29 #[.agg #[.int .u64 yh, .int .u64 yl]] W fun e w' => e = .returned (.string s) ∧ Below W.heap.size W w'))
(HC : Hid (∀ W : World, Calls Try.prog 20 #[.agg #[.int .u64 ah, .int .u64 al], .agg #[.int .u64 bh, .int .u64 bl]] W fun e w' => e = .returned (.int .i64 o) ∧ Below W.heap.size W w'))
(HD : Hid (∀ W : World, Calls Try.prog 20 #[.agg #[.int .u64 bh, .int .u64 bl], .agg #[.int .u64 ah, .int .u64 al]] W fun e w' => e = .returned (.int .i64 (-o)) ∧ Below W.heap.size W w')) :
    Calls Try.prog 9 #[.agg #[.int .u64 ah, .int .u64 al], .agg #[.int .u64 bh, .int .u64 bl], .string s] w fun e w' => e = .returned (.bool true) ∧ Below w.heap.size w w' := by
  have tah : (ah == ah) = true := by simp
  have uah : (ah != ah) = false := by simp
  have tal : (al == al) = true := by simp
  have ual : (al != al) = false := by simp
  have tyh : (yh == yh) = true := by simp
  have uyh : (yh != yh) = false := by simp
  have tyl : (yl == yl) = true := by simp
  have uyl : (yl != yl) = false := by simp
  have HO := hide ho
  clear ho
  have ss : decide (100 < (s.size : Int)) = false := by simp; omega
  have sS := hide hs
  clear hs
  have sq : (s.toList == s.toList) = true := by simp
  go_enter Try.func9, Try.ntmps9
  go_wp2_with fail
  refine (known_any _).mono ?_
  rintro e w1 ⟨rfl, hb⟩
  have hs := hb.size
  simp only [World.size_alloc] at hs
  have hB : Below w.heap.size w w1 := (by repeat (first | assumption | exact Below.refl _ _ | refine Below.setCell ?_ (by first | omega | (simp; done) | (simp; omega)) _ | refine below_drewN ?_ _ | refine Below.drew ?_ | refine Below.alloc ?_ (by first | omega | (simp; done) | (simp; omega)) _ | refine Below.trans ?_ (Below.mono (by assumption) (by first | omega | (simp; done) | (simp; omega)))))
  have c0 := (hb.cell (p := ⟨w.heap.size, 0, none⟩) (by first | (simp; done) | (simp; omega) | (dsimp only; omega))).trans (c := some (.int .u64 ah)) (by simp [go_sem])
  have c1 := (hb.cell (p := ⟨w.heap.size, 1, none⟩) (by first | (simp; done) | (simp; omega) | (dsimp only; omega))).trans (c := some (.int .u64 al)) (by simp [go_sem])
  have c2 := (hb.cell (p := ⟨w.heap.size + 1, 0, none⟩) (by first | (simp; done) | (simp; omega) | (dsimp only; omega))).trans (c := some (.int .u64 bh)) (by simp [go_sem])
  have c3 := (hb.cell (p := ⟨w.heap.size + 1, 1, none⟩) (by first | (simp; done) | (simp; omega) | (dsimp only; omega))).trans (c := some (.int .u64 bl)) (by simp [go_sem])
  have z0 : w.heap.size < w1.heap.size := by omega
  have z1 : w.heap.size + 1 < w1.heap.size := by omega
  have hn0 : w.heap.size ≤ w.heap.size := Nat.le_refl _
  have hn1 : w.heap.size ≤ w.heap.size + 1 := by omega
  clear hb hs
  generalize hb1 : w.heap.size + 1 = b1 at *
  obtain ⟨b0, hb0⟩ : ∃ b0, b0 = w.heap.size := ⟨_, rfl⟩
  rw [← hb0] at c0 c1 z0 hn0 ⊢
  have hb0' := hide hb0
  clear hb1 hb0
  go_wp2_with fail
  go_region_held3 (fun w' => w'.cell? ⟨b0, 0, none⟩ = some (.int .u64 ah) ∧ w'.cell? ⟨b0, 1, none⟩ = some (.int .u64 al) ∧ w'.cell? ⟨b1, 0, none⟩ = some (.int .u64 bh) ∧ w'.cell? ⟨b1, 1, none⟩ = some (.int .u64 bl) ∧ b0 < w'.heap.size ∧ b1 < w'.heap.size ∧ Below w.heap.size w w')
    (first | exact ⟨c0, c1, c2, c3, z0, z1, hB⟩ | exact ⟨c0, c1, c2, c3, z0, z1, (by repeat (first | assumption | exact Below.refl _ _ | refine Below.setCell ?_ (by first | omega | (simp; done) | (simp; omega)) _ | refine below_drewN ?_ _ | refine Below.drew ?_ | refine Below.alloc ?_ (by first | omega | (simp; done) | (simp; omega)) _ | refine Below.trans ?_ (Below.mono (by assumption) (by first | omega | (simp; done) | (simp; omega)))))⟩)
    (first
      | (go_at_call_of 29 (Value.int .u64 ah); refine (HT.out _).mono ?_; rintro e w9 ⟨rfl, hb⟩; have c0 := (hb.cell (p := ⟨b0, 0, none⟩) (by first | (simp; done) | (simp; omega) | (dsimp only; omega))).trans (c := some (.int .u64 ah)) (by first | assumption | (simp [go_sem]; done) | (simp [go_sem, *]; done)); have c1 := (hb.cell (p := ⟨b0, 1, none⟩) (by first | (simp; done) | (simp; omega) | (dsimp only; omega))).trans (c := some (.int .u64 al)) (by first | assumption | (simp [go_sem]; done) | (simp [go_sem, *]; done)); have c2 := (hb.cell (p := ⟨b1, 0, none⟩) (by first | (simp; done) | (simp; omega) | (dsimp only; omega))).trans (c := some (.int .u64 bh)) (by first | assumption | (simp [go_sem]; done) | (simp [go_sem, *]; done)); have c3 := (hb.cell (p := ⟨b1, 1, none⟩) (by first | (simp; done) | (simp; omega) | (dsimp only; omega))).trans (c := some (.int .u64 bl)) (by first | assumption | (simp [go_sem]; done) | (simp [go_sem, *]; done)); have z0 : b0 < w9.heap.size := (by first | (have := hb.size; simp at this; omega) | (have := hb.size; omega)); have z1 : b1 < w9.heap.size := (by first | (have := hb.size; simp at this; omega) | (have := hb.size; omega)); have hB := Below.trans (B := w.heap.size) (a := w) (b := _) (c := w9) (by first | assumption | exact (by repeat (first | assumption | exact Below.refl _ _ | refine Below.setCell ?_ (by first | omega | (simp; done) | (simp; omega)) _ | refine below_drewN ?_ _ | refine Below.drew ?_ | refine Below.alloc ?_ (by first | omega | (simp; done) | (simp; omega)) _ | refine Below.trans ?_ (Below.mono (by assumption) (by first | omega | (simp; done) | (simp; omega)))))) (hb.mono (by first | (simp; done) | (simp; omega) | omega)); clear hb)
      | (go_at_call_of 29 (Value.int .u64 bh); refine (HU.out _).mono ?_; rintro e w9 ⟨rfl, hb⟩; have c0 := (hb.cell (p := ⟨b0, 0, none⟩) (by first | (simp; done) | (simp; omega) | (dsimp only; omega))).trans (c := some (.int .u64 ah)) (by first | assumption | (simp [go_sem]; done) | (simp [go_sem, *]; done)); have c1 := (hb.cell (p := ⟨b0, 1, none⟩) (by first | (simp; done) | (simp; omega) | (dsimp only; omega))).trans (c := some (.int .u64 al)) (by first | assumption | (simp [go_sem]; done) | (simp [go_sem, *]; done)); have c2 := (hb.cell (p := ⟨b1, 0, none⟩) (by first | (simp; done) | (simp; omega) | (dsimp only; omega))).trans (c := some (.int .u64 bh)) (by first | assumption | (simp [go_sem]; done) | (simp [go_sem, *]; done)); have c3 := (hb.cell (p := ⟨b1, 1, none⟩) (by first | (simp; done) | (simp; omega) | (dsimp only; omega))).trans (c := some (.int .u64 bl)) (by first | assumption | (simp [go_sem]; done) | (simp [go_sem, *]; done)); have z0 : b0 < w9.heap.size := (by first | (have := hb.size; simp at this; omega) | (have := hb.size; omega)); have z1 : b1 < w9.heap.size := (by first | (have := hb.size; simp at this; omega) | (have := hb.size; omega)); have hB := Below.trans (B := w.heap.size) (a := w) (b := _) (c := w9) (by first | assumption | exact (by repeat (first | assumption | exact Below.refl _ _ | refine Below.setCell ?_ (by first | omega | (simp; done) | (simp; omega)) _ | refine below_drewN ?_ _ | refine Below.drew ?_ | refine Below.alloc ?_ (by first | omega | (simp; done) | (simp; omega)) _ | refine Below.trans ?_ (Below.mono (by assumption) (by first | omega | (simp; done) | (simp; omega)))))) (hb.mono (by first | (simp; done) | (simp; omega) | omega)); clear hb))
  go_wp2_with fail
  refine (HR.out _).mono ?_
  rintro e w2 ⟨rfl, hb⟩
  have c0 := (hb.cell (p := ⟨b0, 0, none⟩) (by first | (simp; done) | (simp; omega) | (dsimp only; omega))).trans (c := some (.int .u64 ah)) (by first | assumption | (simp [go_sem]; done) | (simp [go_sem, *]; done)); have c1 := (hb.cell (p := ⟨b0, 1, none⟩) (by first | (simp; done) | (simp; omega) | (dsimp only; omega))).trans (c := some (.int .u64 al)) (by first | assumption | (simp [go_sem]; done) | (simp [go_sem, *]; done)); have c2 := (hb.cell (p := ⟨b1, 0, none⟩) (by first | (simp; done) | (simp; omega) | (dsimp only; omega))).trans (c := some (.int .u64 bh)) (by first | assumption | (simp [go_sem]; done) | (simp [go_sem, *]; done)); have c3 := (hb.cell (p := ⟨b1, 1, none⟩) (by first | (simp; done) | (simp; omega) | (dsimp only; omega))).trans (c := some (.int .u64 bl)) (by first | assumption | (simp [go_sem]; done) | (simp [go_sem, *]; done)); have z0 : b0 < w2.heap.size := (by first | (have := hb.size; simp at this; omega) | (have := hb.size; omega)); have z1 : b1 < w2.heap.size := (by first | (have := hb.size; simp at this; omega) | (have := hb.size; omega)); have hB := Below.trans (B := w.heap.size) (a := w) (b := _) (c := w2) (by first | assumption | exact (by repeat (first | assumption | exact Below.refl _ _ | refine Below.setCell ?_ (by first | omega | (simp; done) | (simp; omega)) _ | refine below_drewN ?_ _ | refine Below.drew ?_ | refine Below.alloc ?_ (by first | omega | (simp; done) | (simp; omega)) _ | refine Below.trans ?_ (Below.mono (by assumption) (by first | omega | (simp; done) | (simp; omega)))))) (hb.mono (by first | (simp; done) | (simp; omega) | omega)); clear hb
  go_wp2_with fail
  refine (HS.out _).mono ?_
  rintro e w3 ⟨rfl, hb⟩
  have c0 := (hb.cell (p := ⟨b0, 0, none⟩) (by first | (simp; done) | (simp; omega) | (dsimp only; omega))).trans (c := some (.int .u64 ah)) (by first | assumption | (simp [go_sem]; done) | (simp [go_sem, *]; done)); have c1 := (hb.cell (p := ⟨b0, 1, none⟩) (by first | (simp; done) | (simp; omega) | (dsimp only; omega))).trans (c := some (.int .u64 al)) (by first | assumption | (simp [go_sem]; done) | (simp [go_sem, *]; done)); have c2 := (hb.cell (p := ⟨b1, 0, none⟩) (by first | (simp; done) | (simp; omega) | (dsimp only; omega))).trans (c := some (.int .u64 bh)) (by first | assumption | (simp [go_sem]; done) | (simp [go_sem, *]; done)); have c3 := (hb.cell (p := ⟨b1, 1, none⟩) (by first | (simp; done) | (simp; omega) | (dsimp only; omega))).trans (c := some (.int .u64 bl)) (by first | assumption | (simp [go_sem]; done) | (simp [go_sem, *]; done)); have c4 := (hb.cell (p := ⟨w2.heap.size, 0, none⟩) (by first | (simp; done) | (simp; omega) | (dsimp only; omega))).trans (c := some (.int .u64 ah)) (by first | assumption | (simp [go_sem]; done) | (simp [go_sem, *]; done)); have c5 := (hb.cell (p := ⟨w2.heap.size, 1, none⟩) (by first | (simp; done) | (simp; omega) | (dsimp only; omega))).trans (c := some (.int .u64 al)) (by first | assumption | (simp [go_sem]; done) | (simp [go_sem, *]; done)); have c6 := (hb.cell (p := ⟨w2.heap.size + 1, 0, none⟩) (by first | (simp; done) | (simp; omega) | (dsimp only; omega))).trans (c := some (.int .i64 0)) (by first | assumption | (simp [go_sem]; done) | (simp [go_sem, *]; done)); have c7 := (hb.cell (p := ⟨w2.heap.size + 1, 1, none⟩) (by first | (simp; done) | (simp; omega) | (dsimp only; omega))).trans (c := some (.int .i64 0)) (by first | assumption | (simp [go_sem]; done) | (simp [go_sem, *]; done)); have z0 : b0 < w3.heap.size := (by first | (have := hb.size; simp at this; omega) | (have := hb.size; omega)); have z1 : b1 < w3.heap.size := (by first | (have := hb.size; simp at this; omega) | (have := hb.size; omega)); have z2 : w2.heap.size < w3.heap.size := (by first | (have := hb.size; simp at this; omega) | (have := hb.size; omega)); have z3 : w2.heap.size + 1 < w3.heap.size := (by first | (have := hb.size; simp at this; omega) | (have := hb.size; omega)); have hB := Below.trans (B := w.heap.size) (a := w) (b := _) (c := w3) (by first | assumption | exact (by repeat (first | assumption | exact Below.refl _ _ | refine Below.setCell ?_ (by first | omega | (simp; done) | (simp; omega)) _ | refine below_drewN ?_ _ | refine Below.drew ?_ | refine Below.alloc ?_ (by first | omega | (simp; done) | (simp; omega)) _ | refine Below.trans ?_ (Below.mono (by assumption) (by first | omega | (simp; done) | (simp; omega)))))) (hb.mono (by first | (simp; done) | (simp; omega) | omega)); clear hb
  go_wp2_with fail
  refine (HY.out _).mono ?_
  rintro e w4 ⟨rfl, hb⟩
  have c0 := (hb.cell (p := ⟨b0, 0, none⟩) (by first | (simp; done) | (simp; omega) | (dsimp only; omega))).trans (c := some (.int .u64 ah)) (by first | assumption | (simp [go_sem]; done) | (simp [go_sem, *]; done)); have c1 := (hb.cell (p := ⟨b0, 1, none⟩) (by first | (simp; done) | (simp; omega) | (dsimp only; omega))).trans (c := some (.int .u64 al)) (by first | assumption | (simp [go_sem]; done) | (simp [go_sem, *]; done)); have c2 := (hb.cell (p := ⟨b1, 0, none⟩) (by first | (simp; done) | (simp; omega) | (dsimp only; omega))).trans (c := some (.int .u64 bh)) (by first | assumption | (simp [go_sem]; done) | (simp [go_sem, *]; done)); have c3 := (hb.cell (p := ⟨b1, 1, none⟩) (by first | (simp; done) | (simp; omega) | (dsimp only; omega))).trans (c := some (.int .u64 bl)) (by first | assumption | (simp [go_sem]; done) | (simp [go_sem, *]; done)); have c4 := (hb.cell (p := ⟨w2.heap.size, 0, none⟩) (by first | (simp; done) | (simp; omega) | (dsimp only; omega))).trans (c := some (.int .u64 ah)) (by first | assumption | (simp [go_sem]; done) | (simp [go_sem, *]; done)); have c5 := (hb.cell (p := ⟨w2.heap.size, 1, none⟩) (by first | (simp; done) | (simp; omega) | (dsimp only; omega))).trans (c := some (.int .u64 al)) (by first | assumption | (simp [go_sem]; done) | (simp [go_sem, *]; done)); have c6 := (hb.cell (p := ⟨w2.heap.size + 1, 0, none⟩) (by first | (simp; done) | (simp; omega) | (dsimp only; omega))).trans (c := some (.int .i64 0)) (by first | assumption | (simp [go_sem]; done) | (simp [go_sem, *]; done)); have c7 := (hb.cell (p := ⟨w2.heap.size + 1, 1, none⟩) (by first | (simp; done) | (simp; omega) | (dsimp only; omega))).trans (c := some (.int .i64 0)) (by first | assumption | (simp [go_sem]; done) | (simp [go_sem, *]; done)); have c8 := (hb.cell (p := ⟨w3.heap.size, 0, none⟩) (by first | (simp; done) | (simp; omega) | (dsimp only; omega))).trans (c := some (.int .u64 yh)) (by first | assumption | (simp [go_sem]; done) | (simp [go_sem, *]; done)); have c9 := (hb.cell (p := ⟨w3.heap.size, 1, none⟩) (by first | (simp; done) | (simp; omega) | (dsimp only; omega))).trans (c := some (.int .u64 yl)) (by first | assumption | (simp [go_sem]; done) | (simp [go_sem, *]; done)); have c10 := (hb.cell (p := ⟨w3.heap.size + 1, 0, none⟩) (by first | (simp; done) | (simp; omega) | (dsimp only; omega))).trans (c := some (.int .i64 0)) (by first | assumption | (simp [go_sem]; done) | (simp [go_sem, *]; done)); have c11 := (hb.cell (p := ⟨w3.heap.size + 1, 1, none⟩) (by first | (simp; done) | (simp; omega) | (dsimp only; omega))).trans (c := some (.int .i64 0)) (by first | assumption | (simp [go_sem]; done) | (simp [go_sem, *]; done)); have z0 : b0 < w4.heap.size := (by first | (have := hb.size; simp at this; omega) | (have := hb.size; omega)); have z1 : b1 < w4.heap.size := (by first | (have := hb.size; simp at this; omega) | (have := hb.size; omega)); have z2 : w2.heap.size < w4.heap.size := (by first | (have := hb.size; simp at this; omega) | (have := hb.size; omega)); have z3 : w2.heap.size + 1 < w4.heap.size := (by first | (have := hb.size; simp at this; omega) | (have := hb.size; omega)); have z4 : w3.heap.size < w4.heap.size := (by first | (have := hb.size; simp at this; omega) | (have := hb.size; omega)); have z5 : w3.heap.size + 1 < w4.heap.size := (by first | (have := hb.size; simp at this; omega) | (have := hb.size; omega)); have hB := Below.trans (B := w.heap.size) (a := w) (b := _) (c := w4) (by first | assumption | exact (by repeat (first | assumption | exact Below.refl _ _ | refine Below.setCell ?_ (by first | omega | (simp; done) | (simp; omega)) _ | refine below_drewN ?_ _ | refine Below.drew ?_ | refine Below.alloc ?_ (by first | omega | (simp; done) | (simp; omega)) _ | refine Below.trans ?_ (Below.mono (by assumption) (by first | omega | (simp; done) | (simp; omega)))))) (hb.mono (by first | (simp; done) | (simp; omega) | omega)); clear hb
  rcases ord_cases t u with ⟨h1, ho⟩ | ⟨h1, ho⟩ | ⟨h1, ho⟩ | ⟨h1, ho⟩ | ⟨h1, ho⟩
  · have ho := HO.out.symm.trans ho
    subst ho
    have f1 : ¬ u.size ≤ t.size := by omega
    go_wp2_with fail
    refine (HC.out _).mono ?_
    rintro e w5 ⟨rfl, hb⟩
    have c0 := (hb.cell (p := ⟨b0, 0, none⟩) (by first | (simp; done) | (simp; omega) | (dsimp only; omega))).trans (c := some (.int .u64 ah)) (by first | assumption | (simp [go_sem]; done) | (simp [go_sem, *]; done)); have c1 := (hb.cell (p := ⟨b0, 1, none⟩) (by first | (simp; done) | (simp; omega) | (dsimp only; omega))).trans (c := some (.int .u64 al)) (by first | assumption | (simp [go_sem]; done) | (simp [go_sem, *]; done)); have c2 := (hb.cell (p := ⟨b1, 0, none⟩) (by first | (simp; done) | (simp; omega) | (dsimp only; omega))).trans (c := some (.int .u64 bh)) (by first | assumption | (simp [go_sem]; done) | (simp [go_sem, *]; done)); have c3 := (hb.cell (p := ⟨b1, 1, none⟩) (by first | (simp; done) | (simp; omega) | (dsimp only; omega))).trans (c := some (.int .u64 bl)) (by first | assumption | (simp [go_sem]; done) | (simp [go_sem, *]; done)); have z0 : b0 < w5.heap.size := (by first | (have := hb.size; simp at this; omega) | (have := hb.size; omega)); have z1 : b1 < w5.heap.size := (by first | (have := hb.size; simp at this; omega) | (have := hb.size; omega)); have hB := Below.trans (B := w.heap.size) (a := w) (b := _) (c := w5) (by first | assumption | exact (by repeat (first | assumption | exact Below.refl _ _ | refine Below.setCell ?_ (by first | omega | (simp; done) | (simp; omega)) _ | refine below_drewN ?_ _ | refine Below.drew ?_ | refine Below.alloc ?_ (by first | omega | (simp; done) | (simp; omega)) _ | refine Below.trans ?_ (Below.mono (by assumption) (by first | omega | (simp; done) | (simp; omega)))))) (hb.mono (by first | (simp; done) | (simp; omega) | omega)); clear hb
    go_wp2_with fail
    refine (HD.out _).mono ?_
    rintro e w6 ⟨rfl, hb⟩
    have c0 := (hb.cell (p := ⟨b0, 0, none⟩) (by first | (simp; done) | (simp; omega) | (dsimp only; omega))).trans (c := some (.int .u64 ah)) (by first | assumption | (simp [go_sem]; done) | (simp [go_sem, *]; done)); have c1 := (hb.cell (p := ⟨b0, 1, none⟩) (by first | (simp; done) | (simp; omega) | (dsimp only; omega))).trans (c := some (.int .u64 al)) (by first | assumption | (simp [go_sem]; done) | (simp [go_sem, *]; done)); have c2 := (hb.cell (p := ⟨b1, 0, none⟩) (by first | (simp; done) | (simp; omega) | (dsimp only; omega))).trans (c := some (.int .u64 bh)) (by first | assumption | (simp [go_sem]; done) | (simp [go_sem, *]; done)); have c3 := (hb.cell (p := ⟨b1, 1, none⟩) (by first | (simp; done) | (simp; omega) | (dsimp only; omega))).trans (c := some (.int .u64 bl)) (by first | assumption | (simp [go_sem]; done) | (simp [go_sem, *]; done)); have z0 : b0 < w6.heap.size := (by first | (have := hb.size; simp at this; omega) | (have := hb.size; omega)); have z1 : b1 < w6.heap.size := (by first | (have := hb.size; simp at this; omega) | (have := hb.size; omega)); have hB := Below.trans (B := w.heap.size) (a := w) (b := _) (c := w6) (by first | assumption | exact (by repeat (first | assumption | exact Below.refl _ _ | refine Below.setCell ?_ (by first | omega | (simp; done) | (simp; omega)) _ | refine below_drewN ?_ _ | refine Below.drew ?_ | refine Below.alloc ?_ (by first | omega | (simp; done) | (simp; omega)) _ | refine Below.trans ?_ (Below.mono (by assumption) (by first | omega | (simp; done) | (simp; omega)))))) (hb.mono (by first | (simp; done) | (simp; omega) | omega)); clear hb
    go_wp2
    go_ret
    exact ⟨rfl, hB⟩
  · have ho := HO.out.symm.trans ho
    subst ho
    obtain ⟨h1, h2⟩ := h1
    have f1 : u.size ≤ t.size := by omega
    have f2 : (t.size : Int) = (u.size : Int) := by omega
    have f3 : ¬ t.size < u.size := by omega
    clear h1
    go_wp2_with fail
    refine (HC.out _).mono ?_
    rintro e w5 ⟨rfl, hb⟩
    have c0 := (hb.cell (p := ⟨b0, 0, none⟩) (by first | (simp; done) | (simp; omega) | (dsimp only; omega))).trans (c := some (.int .u64 ah)) (by first | assumption | (simp [go_sem]; done) | (simp [go_sem, *]; done)); have c1 := (hb.cell (p := ⟨b0, 1, none⟩) (by first | (simp; done) | (simp; omega) | (dsimp only; omega))).trans (c := some (.int .u64 al)) (by first | assumption | (simp [go_sem]; done) | (simp [go_sem, *]; done)); have c2 := (hb.cell (p := ⟨b1, 0, none⟩) (by first | (simp; done) | (simp; omega) | (dsimp only; omega))).trans (c := some (.int .u64 bh)) (by first | assumption | (simp [go_sem]; done) | (simp [go_sem, *]; done)); have c3 := (hb.cell (p := ⟨b1, 1, none⟩) (by first | (simp; done) | (simp; omega) | (dsimp only; omega))).trans (c := some (.int .u64 bl)) (by first | assumption | (simp [go_sem]; done) | (simp [go_sem, *]; done)); have z0 : b0 < w5.heap.size := (by first | (have := hb.size; simp at this; omega) | (have := hb.size; omega)); have z1 : b1 < w5.heap.size := (by first | (have := hb.size; simp at this; omega) | (have := hb.size; omega)); have hB := Below.trans (B := w.heap.size) (a := w) (b := _) (c := w5) (by first | assumption | exact (by repeat (first | assumption | exact Below.refl _ _ | refine Below.setCell ?_ (by first | omega | (simp; done) | (simp; omega)) _ | refine below_drewN ?_ _ | refine Below.drew ?_ | refine Below.alloc ?_ (by first | omega | (simp; done) | (simp; omega)) _ | refine Below.trans ?_ (Below.mono (by assumption) (by first | omega | (simp; done) | (simp; omega)))))) (hb.mono (by first | (simp; done) | (simp; omega) | omega)); clear hb
    go_wp2_with fail
    refine (HD.out _).mono ?_
    rintro e w6 ⟨rfl, hb⟩
    have c0 := (hb.cell (p := ⟨b0, 0, none⟩) (by first | (simp; done) | (simp; omega) | (dsimp only; omega))).trans (c := some (.int .u64 ah)) (by first | assumption | (simp [go_sem]; done) | (simp [go_sem, *]; done)); have c1 := (hb.cell (p := ⟨b0, 1, none⟩) (by first | (simp; done) | (simp; omega) | (dsimp only; omega))).trans (c := some (.int .u64 al)) (by first | assumption | (simp [go_sem]; done) | (simp [go_sem, *]; done)); have c2 := (hb.cell (p := ⟨b1, 0, none⟩) (by first | (simp; done) | (simp; omega) | (dsimp only; omega))).trans (c := some (.int .u64 bh)) (by first | assumption | (simp [go_sem]; done) | (simp [go_sem, *]; done)); have c3 := (hb.cell (p := ⟨b1, 1, none⟩) (by first | (simp; done) | (simp; omega) | (dsimp only; omega))).trans (c := some (.int .u64 bl)) (by first | assumption | (simp [go_sem]; done) | (simp [go_sem, *]; done)); have z0 : b0 < w6.heap.size := (by first | (have := hb.size; simp at this; omega) | (have := hb.size; omega)); have z1 : b1 < w6.heap.size := (by first | (have := hb.size; simp at this; omega) | (have := hb.size; omega)); have hB := Below.trans (B := w.heap.size) (a := w) (b := _) (c := w6) (by first | assumption | exact (by repeat (first | assumption | exact Below.refl _ _ | refine Below.setCell ?_ (by first | omega | (simp; done) | (simp; omega)) _ | refine below_drewN ?_ _ | refine Below.drew ?_ | refine Below.alloc ?_ (by first | omega | (simp; done) | (simp; omega)) _ | refine Below.trans ?_ (Below.mono (by assumption) (by first | omega | (simp; done) | (simp; omega)))))) (hb.mono (by first | (simp; done) | (simp; omega) | omega)); clear hb
    go_wp2
    go_ret
    exact ⟨rfl, hB⟩
  · have ho := HO.out.symm.trans ho
    subst ho
    obtain ⟨h1, h2, h3⟩ := h1
    have f1 : u.size ≤ t.size := by omega
    have f2 : (t.size : Int) = (u.size : Int) := by omega
    have f3 : ¬ t.size < u.size := by omega
    clear h1
    go_wp2_with fail
    refine (HC.out _).mono ?_
    rintro e w5 ⟨rfl, hb⟩
    have c0 := (hb.cell (p := ⟨b0, 0, none⟩) (by first | (simp; done) | (simp; omega) | (dsimp only; omega))).trans (c := some (.int .u64 ah)) (by first | assumption | (simp [go_sem]; done) | (simp [go_sem, *]; done)); have c1 := (hb.cell (p := ⟨b0, 1, none⟩) (by first | (simp; done) | (simp; omega) | (dsimp only; omega))).trans (c := some (.int .u64 al)) (by first | assumption | (simp [go_sem]; done) | (simp [go_sem, *]; done)); have c2 := (hb.cell (p := ⟨b1, 0, none⟩) (by first | (simp; done) | (simp; omega) | (dsimp only; omega))).trans (c := some (.int .u64 bh)) (by first | assumption | (simp [go_sem]; done) | (simp [go_sem, *]; done)); have c3 := (hb.cell (p := ⟨b1, 1, none⟩) (by first | (simp; done) | (simp; omega) | (dsimp only; omega))).trans (c := some (.int .u64 bl)) (by first | assumption | (simp [go_sem]; done) | (simp [go_sem, *]; done)); have z0 : b0 < w5.heap.size := (by first | (have := hb.size; simp at this; omega) | (have := hb.size; omega)); have z1 : b1 < w5.heap.size := (by first | (have := hb.size; simp at this; omega) | (have := hb.size; omega)); have hB := Below.trans (B := w.heap.size) (a := w) (b := _) (c := w5) (by first | assumption | exact (by repeat (first | assumption | exact Below.refl _ _ | refine Below.setCell ?_ (by first | omega | (simp; done) | (simp; omega)) _ | refine below_drewN ?_ _ | refine Below.drew ?_ | refine Below.alloc ?_ (by first | omega | (simp; done) | (simp; omega)) _ | refine Below.trans ?_ (Below.mono (by assumption) (by first | omega | (simp; done) | (simp; omega)))))) (hb.mono (by first | (simp; done) | (simp; omega) | omega)); clear hb
    go_wp2_with fail
    refine (HD.out _).mono ?_
    rintro e w6 ⟨rfl, hb⟩
    have c0 := (hb.cell (p := ⟨b0, 0, none⟩) (by first | (simp; done) | (simp; omega) | (dsimp only; omega))).trans (c := some (.int .u64 ah)) (by first | assumption | (simp [go_sem]; done) | (simp [go_sem, *]; done)); have c1 := (hb.cell (p := ⟨b0, 1, none⟩) (by first | (simp; done) | (simp; omega) | (dsimp only; omega))).trans (c := some (.int .u64 al)) (by first | assumption | (simp [go_sem]; done) | (simp [go_sem, *]; done)); have c2 := (hb.cell (p := ⟨b1, 0, none⟩) (by first | (simp; done) | (simp; omega) | (dsimp only; omega))).trans (c := some (.int .u64 bh)) (by first | assumption | (simp [go_sem]; done) | (simp [go_sem, *]; done)); have c3 := (hb.cell (p := ⟨b1, 1, none⟩) (by first | (simp; done) | (simp; omega) | (dsimp only; omega))).trans (c := some (.int .u64 bl)) (by first | assumption | (simp [go_sem]; done) | (simp [go_sem, *]; done)); have z0 : b0 < w6.heap.size := (by first | (have := hb.size; simp at this; omega) | (have := hb.size; omega)); have z1 : b1 < w6.heap.size := (by first | (have := hb.size; simp at this; omega) | (have := hb.size; omega)); have hB := Below.trans (B := w.heap.size) (a := w) (b := _) (c := w6) (by first | assumption | exact (by repeat (first | assumption | exact Below.refl _ _ | refine Below.setCell ?_ (by first | omega | (simp; done) | (simp; omega)) _ | refine below_drewN ?_ _ | refine Below.drew ?_ | refine Below.alloc ?_ (by first | omega | (simp; done) | (simp; omega)) _ | refine Below.trans ?_ (Below.mono (by assumption) (by first | omega | (simp; done) | (simp; omega)))))) (hb.mono (by first | (simp; done) | (simp; omega) | omega)); clear hb
    go_wp2
    go_ret
    exact ⟨rfl, hB⟩
  · have ho := HO.out.symm.trans ho
    subst ho
    obtain ⟨h1, h2, h3⟩ := h1
    have f1 : u.size ≤ t.size := by omega
    have f2 : (t.size : Int) = (u.size : Int) := by omega
    have f3 : ¬ t.size < u.size := by omega
    clear h1
    go_wp2_with fail
    refine (HC.out _).mono ?_
    rintro e w5 ⟨rfl, hb⟩
    have c0 := (hb.cell (p := ⟨b0, 0, none⟩) (by first | (simp; done) | (simp; omega) | (dsimp only; omega))).trans (c := some (.int .u64 ah)) (by first | assumption | (simp [go_sem]; done) | (simp [go_sem, *]; done)); have c1 := (hb.cell (p := ⟨b0, 1, none⟩) (by first | (simp; done) | (simp; omega) | (dsimp only; omega))).trans (c := some (.int .u64 al)) (by first | assumption | (simp [go_sem]; done) | (simp [go_sem, *]; done)); have c2 := (hb.cell (p := ⟨b1, 0, none⟩) (by first | (simp; done) | (simp; omega) | (dsimp only; omega))).trans (c := some (.int .u64 bh)) (by first | assumption | (simp [go_sem]; done) | (simp [go_sem, *]; done)); have c3 := (hb.cell (p := ⟨b1, 1, none⟩) (by first | (simp; done) | (simp; omega) | (dsimp only; omega))).trans (c := some (.int .u64 bl)) (by first | assumption | (simp [go_sem]; done) | (simp [go_sem, *]; done)); have z0 : b0 < w5.heap.size := (by first | (have := hb.size; simp at this; omega) | (have := hb.size; omega)); have z1 : b1 < w5.heap.size := (by first | (have := hb.size; simp at this; omega) | (have := hb.size; omega)); have hB := Below.trans (B := w.heap.size) (a := w) (b := _) (c := w5) (by first | assumption | exact (by repeat (first | assumption | exact Below.refl _ _ | refine Below.setCell ?_ (by first | omega | (simp; done) | (simp; omega)) _ | refine below_drewN ?_ _ | refine Below.drew ?_ | refine Below.alloc ?_ (by first | omega | (simp; done) | (simp; omega)) _ | refine Below.trans ?_ (Below.mono (by assumption) (by first | omega | (simp; done) | (simp; omega)))))) (hb.mono (by first | (simp; done) | (simp; omega) | omega)); clear hb
    go_wp2_with fail
    refine (HD.out _).mono ?_
    rintro e w6 ⟨rfl, hb⟩
    have c0 := (hb.cell (p := ⟨b0, 0, none⟩) (by first | (simp; done) | (simp; omega) | (dsimp only; omega))).trans (c := some (.int .u64 ah)) (by first | assumption | (simp [go_sem]; done) | (simp [go_sem, *]; done)); have c1 := (hb.cell (p := ⟨b0, 1, none⟩) (by first | (simp; done) | (simp; omega) | (dsimp only; omega))).trans (c := some (.int .u64 al)) (by first | assumption | (simp [go_sem]; done) | (simp [go_sem, *]; done)); have c2 := (hb.cell (p := ⟨b1, 0, none⟩) (by first | (simp; done) | (simp; omega) | (dsimp only; omega))).trans (c := some (.int .u64 bh)) (by first | assumption | (simp [go_sem]; done) | (simp [go_sem, *]; done)); have c3 := (hb.cell (p := ⟨b1, 1, none⟩) (by first | (simp; done) | (simp; omega) | (dsimp only; omega))).trans (c := some (.int .u64 bl)) (by first | assumption | (simp [go_sem]; done) | (simp [go_sem, *]; done)); have z0 : b0 < w6.heap.size := (by first | (have := hb.size; simp at this; omega) | (have := hb.size; omega)); have z1 : b1 < w6.heap.size := (by first | (have := hb.size; simp at this; omega) | (have := hb.size; omega)); have hB := Below.trans (B := w.heap.size) (a := w) (b := _) (c := w6) (by first | assumption | exact (by repeat (first | assumption | exact Below.refl _ _ | refine Below.setCell ?_ (by first | omega | (simp; done) | (simp; omega)) _ | refine below_drewN ?_ _ | refine Below.drew ?_ | refine Below.alloc ?_ (by first | omega | (simp; done) | (simp; omega)) _ | refine Below.trans ?_ (Below.mono (by assumption) (by first | omega | (simp; done) | (simp; omega)))))) (hb.mono (by first | (simp; done) | (simp; omega) | omega)); clear hb
    go_wp2
    go_ret
    exact ⟨rfl, hB⟩
  · have ho := HO.out.symm.trans ho
    subst ho
    obtain ⟨h1, h3⟩ := h1
    have f1 : u.size ≤ t.size := by omega
    have f2 : ¬ (t.size : Int) = (u.size : Int) := by omega
    have f3 : ¬ t.size < u.size := by omega
    clear h1
    go_wp2_with fail
    refine (HC.out _).mono ?_
    rintro e w5 ⟨rfl, hb⟩
    have c0 := (hb.cell (p := ⟨b0, 0, none⟩) (by first | (simp; done) | (simp; omega) | (dsimp only; omega))).trans (c := some (.int .u64 ah)) (by first | assumption | (simp [go_sem]; done) | (simp [go_sem, *]; done)); have c1 := (hb.cell (p := ⟨b0, 1, none⟩) (by first | (simp; done) | (simp; omega) | (dsimp only; omega))).trans (c := some (.int .u64 al)) (by first | assumption | (simp [go_sem]; done) | (simp [go_sem, *]; done)); have c2 := (hb.cell (p := ⟨b1, 0, none⟩) (by first | (simp; done) | (simp; omega) | (dsimp only; omega))).trans (c := some (.int .u64 bh)) (by first | assumption | (simp [go_sem]; done) | (simp [go_sem, *]; done)); have c3 := (hb.cell (p := ⟨b1, 1, none⟩) (by first | (simp; done) | (simp; omega) | (dsimp only; omega))).trans (c := some (.int .u64 bl)) (by first | assumption | (simp [go_sem]; done) | (simp [go_sem, *]; done)); have z0 : b0 < w5.heap.size := (by first | (have := hb.size; simp at this; omega) | (have := hb.size; omega)); have z1 : b1 < w5.heap.size := (by first | (have := hb.size; simp at this; omega) | (have := hb.size; omega)); have hB := Below.trans (B := w.heap.size) (a := w) (b := _) (c := w5) (by first | assumption | exact (by repeat (first | assumption | exact Below.refl _ _ | refine Below.setCell ?_ (by first | omega | (simp; done) | (simp; omega)) _ | refine below_drewN ?_ _ | refine Below.drew ?_ | refine Below.alloc ?_ (by first | omega | (simp; done) | (simp; omega)) _ | refine Below.trans ?_ (Below.mono (by assumption) (by first | omega | (simp; done) | (simp; omega)))))) (hb.mono (by first | (simp; done) | (simp; omega) | omega)); clear hb
    go_wp2_with fail
    refine (HD.out _).mono ?_
    rintro e w6 ⟨rfl, hb⟩
    have c0 := (hb.cell (p := ⟨b0, 0, none⟩) (by first | (simp; done) | (simp; omega) | (dsimp only; omega))).trans (c := some (.int .u64 ah)) (by first | assumption | (simp [go_sem]; done) | (simp [go_sem, *]; done)); have c1 := (hb.cell (p := ⟨b0, 1, none⟩) (by first | (simp; done) | (simp; omega) | (dsimp only; omega))).trans (c := some (.int .u64 al)) (by first | assumption | (simp [go_sem]; done) | (simp [go_sem, *]; done)); have c2 := (hb.cell (p := ⟨b1, 0, none⟩) (by first | (simp; done) | (simp; omega) | (dsimp only; omega))).trans (c := some (.int .u64 bh)) (by first | assumption | (simp [go_sem]; done) | (simp [go_sem, *]; done)); have c3 := (hb.cell (p := ⟨b1, 1, none⟩) (by first | (simp; done) | (simp; omega) | (dsimp only; omega))).trans (c := some (.int .u64 bl)) (by first | assumption | (simp [go_sem]; done) | (simp [go_sem, *]; done)); have z0 : b0 < w6.heap.size := (by first | (have := hb.size; simp at this; omega) | (have := hb.size; omega)); have z1 : b1 < w6.heap.size := (by first | (have := hb.size; simp at this; omega) | (have := hb.size; omega)); have hB := Below.trans (B := w.heap.size) (a := w) (b := _) (c := w6) (by first | assumption | exact (by repeat (first | assumption | exact Below.refl _ _ | refine Below.setCell ?_ (by first | omega | (simp; done) | (simp; omega)) _ | refine below_drewN ?_ _ | refine Below.drew ?_ | refine Below.alloc ?_ (by first | omega | (simp; done) | (simp; omega)) _ | refine Below.trans ?_ (Below.mono (by assumption) (by first | omega | (simp; done) | (simp; omega)))))) (hb.mono (by first | (simp; done) | (simp; omega) | omega)); clear hb
    go_wp2
    go_ret
    exact ⟨rfl, hB⟩

set_option maxRecDepth 100000 in
set_option maxHeartbeats 4000000 in
theorem ba1 (ah al bh bl _yh _yl ge gat o : Int) (s t u : ByteArray) (w : World) (hs : s.size ≤ 100) (ho : ord t u = o)
    (HT : Hid (∀ W : World, Calls Try.prog 29 #[.agg #[.int .u64 ah, .int .u64 al]] W fun e w' => e = .returned (.string t) ∧ Below W.heap.size W w'))
(HU : Hid (∀ W : World, Calls Try.prog 29 #[.agg #[.int .u64 bh, .int .u64 bl]] W fun e w' => e = .returned (.string u) ∧ Below W.heap.size W w'))
(HR : Hid (∀ W : World, Calls Try.prog 27 #[.string t] W fun e w' => e = .returned (.tuple #[.agg #[.int .u64 ah, .int .u64 al], .agg #[.int .i64 0, .int .i64 0]]) ∧ Below W.heap.size W w'))
(HS : Hid (∀ W : World, Calls Try.prog 27 #[.string s] W fun e w' => e = .returned (.tuple #[.agg #[.int .u64 0, .int .u64 0], .agg #[.int .i64 ge, .int .i64 gat]]) ∧ Below W.heap.size W w'))
(hg1 : (ge == 0) = false) (_ : (ge != 0) = true) (hg3 : decide (gat < 0) = false) (hg4 : decide ((s.size : Int) < gat) = false)
(HC : Hid (∀ W : World, Calls Try.prog 20 #[.agg #[.int .u64 ah, .int .u64 al], .agg #[.int .u64 bh, .int .u64 bl]] W fun e w' => e = .returned (.int .i64 o) ∧ Below W.heap.size W w'))
(HD : Hid (∀ W : World, Calls Try.prog 20 #[.agg #[.int .u64 bh, .int .u64 bl], .agg #[.int .u64 ah, .int .u64 al]] W fun e w' => e = .returned (.int .i64 (-o)) ∧ Below W.heap.size W w')) :
    Calls Try.prog 9 #[.agg #[.int .u64 ah, .int .u64 al], .agg #[.int .u64 bh, .int .u64 bl], .string s] w fun e w' => e = .returned (.bool true) ∧ Below w.heap.size w w' := by
  have tah : (ah == ah) = true := by simp
  have uah : (ah != ah) = false := by simp
  have tal : (al == al) = true := by simp
  have ual : (al != al) = false := by simp
  have HO := hide ho
  clear ho
  have ss : decide (100 < (s.size : Int)) = false := by simp; omega
  have sS := hide hs
  clear hs
  have sq : (s.toList == s.toList) = true := by simp
  go_enter Try.func9, Try.ntmps9
  go_wp2_with fail
  refine (known_any _).mono ?_
  rintro e w1 ⟨rfl, hb⟩
  have hs := hb.size
  simp only [World.size_alloc] at hs
  have hB : Below w.heap.size w w1 := (by repeat (first | assumption | exact Below.refl _ _ | refine Below.setCell ?_ (by first | omega | (simp; done) | (simp; omega)) _ | refine below_drewN ?_ _ | refine Below.drew ?_ | refine Below.alloc ?_ (by first | omega | (simp; done) | (simp; omega)) _ | refine Below.trans ?_ (Below.mono (by assumption) (by first | omega | (simp; done) | (simp; omega)))))
  have c0 := (hb.cell (p := ⟨w.heap.size, 0, none⟩) (by first | (simp; done) | (simp; omega) | (dsimp only; omega))).trans (c := some (.int .u64 ah)) (by simp [go_sem])
  have c1 := (hb.cell (p := ⟨w.heap.size, 1, none⟩) (by first | (simp; done) | (simp; omega) | (dsimp only; omega))).trans (c := some (.int .u64 al)) (by simp [go_sem])
  have c2 := (hb.cell (p := ⟨w.heap.size + 1, 0, none⟩) (by first | (simp; done) | (simp; omega) | (dsimp only; omega))).trans (c := some (.int .u64 bh)) (by simp [go_sem])
  have c3 := (hb.cell (p := ⟨w.heap.size + 1, 1, none⟩) (by first | (simp; done) | (simp; omega) | (dsimp only; omega))).trans (c := some (.int .u64 bl)) (by simp [go_sem])
  have z0 : w.heap.size < w1.heap.size := by omega
  have z1 : w.heap.size + 1 < w1.heap.size := by omega
  have hn0 : w.heap.size ≤ w.heap.size := Nat.le_refl _
  have hn1 : w.heap.size ≤ w.heap.size + 1 := by omega
  clear hb hs
  generalize hb1 : w.heap.size + 1 = b1 at *
  obtain ⟨b0, hb0⟩ : ∃ b0, b0 = w.heap.size := ⟨_, rfl⟩
  rw [← hb0] at c0 c1 z0 hn0 ⊢
  have hb0' := hide hb0
  clear hb1 hb0
  go_wp2_with fail
  go_region_held3 (fun w' => w'.cell? ⟨b0, 0, none⟩ = some (.int .u64 ah) ∧ w'.cell? ⟨b0, 1, none⟩ = some (.int .u64 al) ∧ w'.cell? ⟨b1, 0, none⟩ = some (.int .u64 bh) ∧ w'.cell? ⟨b1, 1, none⟩ = some (.int .u64 bl) ∧ b0 < w'.heap.size ∧ b1 < w'.heap.size ∧ Below w.heap.size w w')
    (first | exact ⟨c0, c1, c2, c3, z0, z1, hB⟩ | exact ⟨c0, c1, c2, c3, z0, z1, (by repeat (first | assumption | exact Below.refl _ _ | refine Below.setCell ?_ (by first | omega | (simp; done) | (simp; omega)) _ | refine below_drewN ?_ _ | refine Below.drew ?_ | refine Below.alloc ?_ (by first | omega | (simp; done) | (simp; omega)) _ | refine Below.trans ?_ (Below.mono (by assumption) (by first | omega | (simp; done) | (simp; omega)))))⟩)
    (first
      | (go_at_call_of 29 (Value.int .u64 ah); refine (HT.out _).mono ?_; rintro e w9 ⟨rfl, hb⟩; have c0 := (hb.cell (p := ⟨b0, 0, none⟩) (by first | (simp; done) | (simp; omega) | (dsimp only; omega))).trans (c := some (.int .u64 ah)) (by first | assumption | (simp [go_sem]; done) | (simp [go_sem, *]; done)); have c1 := (hb.cell (p := ⟨b0, 1, none⟩) (by first | (simp; done) | (simp; omega) | (dsimp only; omega))).trans (c := some (.int .u64 al)) (by first | assumption | (simp [go_sem]; done) | (simp [go_sem, *]; done)); have c2 := (hb.cell (p := ⟨b1, 0, none⟩) (by first | (simp; done) | (simp; omega) | (dsimp only; omega))).trans (c := some (.int .u64 bh)) (by first | assumption | (simp [go_sem]; done) | (simp [go_sem, *]; done)); have c3 := (hb.cell (p := ⟨b1, 1, none⟩) (by first | (simp; done) | (simp; omega) | (dsimp only; omega))).trans (c := some (.int .u64 bl)) (by first | assumption | (simp [go_sem]; done) | (simp [go_sem, *]; done)); have z0 : b0 < w9.heap.size := (by first | (have := hb.size; simp at this; omega) | (have := hb.size; omega)); have z1 : b1 < w9.heap.size := (by first | (have := hb.size; simp at this; omega) | (have := hb.size; omega)); have hB := Below.trans (B := w.heap.size) (a := w) (b := _) (c := w9) (by first | assumption | exact (by repeat (first | assumption | exact Below.refl _ _ | refine Below.setCell ?_ (by first | omega | (simp; done) | (simp; omega)) _ | refine below_drewN ?_ _ | refine Below.drew ?_ | refine Below.alloc ?_ (by first | omega | (simp; done) | (simp; omega)) _ | refine Below.trans ?_ (Below.mono (by assumption) (by first | omega | (simp; done) | (simp; omega)))))) (hb.mono (by first | (simp; done) | (simp; omega) | omega)); clear hb)
      | (go_at_call_of 29 (Value.int .u64 bh); refine (HU.out _).mono ?_; rintro e w9 ⟨rfl, hb⟩; have c0 := (hb.cell (p := ⟨b0, 0, none⟩) (by first | (simp; done) | (simp; omega) | (dsimp only; omega))).trans (c := some (.int .u64 ah)) (by first | assumption | (simp [go_sem]; done) | (simp [go_sem, *]; done)); have c1 := (hb.cell (p := ⟨b0, 1, none⟩) (by first | (simp; done) | (simp; omega) | (dsimp only; omega))).trans (c := some (.int .u64 al)) (by first | assumption | (simp [go_sem]; done) | (simp [go_sem, *]; done)); have c2 := (hb.cell (p := ⟨b1, 0, none⟩) (by first | (simp; done) | (simp; omega) | (dsimp only; omega))).trans (c := some (.int .u64 bh)) (by first | assumption | (simp [go_sem]; done) | (simp [go_sem, *]; done)); have c3 := (hb.cell (p := ⟨b1, 1, none⟩) (by first | (simp; done) | (simp; omega) | (dsimp only; omega))).trans (c := some (.int .u64 bl)) (by first | assumption | (simp [go_sem]; done) | (simp [go_sem, *]; done)); have z0 : b0 < w9.heap.size := (by first | (have := hb.size; simp at this; omega) | (have := hb.size; omega)); have z1 : b1 < w9.heap.size := (by first | (have := hb.size; simp at this; omega) | (have := hb.size; omega)); have hB := Below.trans (B := w.heap.size) (a := w) (b := _) (c := w9) (by first | assumption | exact (by repeat (first | assumption | exact Below.refl _ _ | refine Below.setCell ?_ (by first | omega | (simp; done) | (simp; omega)) _ | refine below_drewN ?_ _ | refine Below.drew ?_ | refine Below.alloc ?_ (by first | omega | (simp; done) | (simp; omega)) _ | refine Below.trans ?_ (Below.mono (by assumption) (by first | omega | (simp; done) | (simp; omega)))))) (hb.mono (by first | (simp; done) | (simp; omega) | omega)); clear hb))
  go_wp2_with fail
  refine (HR.out _).mono ?_
  rintro e w2 ⟨rfl, hb⟩
  have c0 := (hb.cell (p := ⟨b0, 0, none⟩) (by first | (simp; done) | (simp; omega) | (dsimp only; omega))).trans (c := some (.int .u64 ah)) (by first | assumption | (simp [go_sem]; done) | (simp [go_sem, *]; done)); have c1 := (hb.cell (p := ⟨b0, 1, none⟩) (by first | (simp; done) | (simp; omega) | (dsimp only; omega))).trans (c := some (.int .u64 al)) (by first | assumption | (simp [go_sem]; done) | (simp [go_sem, *]; done)); have c2 := (hb.cell (p := ⟨b1, 0, none⟩) (by first | (simp; done) | (simp; omega) | (dsimp only; omega))).trans (c := some (.int .u64 bh)) (by first | assumption | (simp [go_sem]; done) | (simp [go_sem, *]; done)); have c3 := (hb.cell (p := ⟨b1, 1, none⟩) (by first | (simp; done) | (simp; omega) | (dsimp only; omega))).trans (c := some (.int .u64 bl)) (by first | assumption | (simp [go_sem]; done) | (simp [go_sem, *]; done)); have z0 : b0 < w2.heap.size := (by first | (have := hb.size; simp at this; omega) | (have := hb.size; omega)); have z1 : b1 < w2.heap.size := (by first | (have := hb.size; simp at this; omega) | (have := hb.size; omega)); have hB := Below.trans (B := w.heap.size) (a := w) (b := _) (c := w2) (by first | assumption | exact (by repeat (first | assumption | exact Below.refl _ _ | refine Below.setCell ?_ (by first | omega | (simp; done) | (simp; omega)) _ | refine below_drewN ?_ _ | refine Below.drew ?_ | refine Below.alloc ?_ (by first | omega | (simp; done) | (simp; omega)) _ | refine Below.trans ?_ (Below.mono (by assumption) (by first | omega | (simp; done) | (simp; omega)))))) (hb.mono (by first | (simp; done) | (simp; omega) | omega)); clear hb
  go_wp2_with fail
  refine (HS.out _).mono ?_
  rintro e w3 ⟨rfl, hb⟩
  have c0 := (hb.cell (p := ⟨b0, 0, none⟩) (by first | (simp; done) | (simp; omega) | (dsimp only; omega))).trans (c := some (.int .u64 ah)) (by first | assumption | (simp [go_sem]; done) | (simp [go_sem, *]; done)); have c1 := (hb.cell (p := ⟨b0, 1, none⟩) (by first | (simp; done) | (simp; omega) | (dsimp only; omega))).trans (c := some (.int .u64 al)) (by first | assumption | (simp [go_sem]; done) | (simp [go_sem, *]; done)); have c2 := (hb.cell (p := ⟨b1, 0, none⟩) (by first | (simp; done) | (simp; omega) | (dsimp only; omega))).trans (c := some (.int .u64 bh)) (by first | assumption | (simp [go_sem]; done) | (simp [go_sem, *]; done)); have c3 := (hb.cell (p := ⟨b1, 1, none⟩) (by first | (simp; done) | (simp; omega) | (dsimp only; omega))).trans (c := some (.int .u64 bl)) (by first | assumption | (simp [go_sem]; done) | (simp [go_sem, *]; done)); have c4 := (hb.cell (p := ⟨w2.heap.size, 0, none⟩) (by first | (simp; done) | (simp; omega) | (dsimp only; omega))).trans (c := some (.int .u64 ah)) (by first | assumption | (simp [go_sem]; done) | (simp [go_sem, *]; done)); have c5 := (hb.cell (p := ⟨w2.heap.size, 1, none⟩) (by first | (simp; done) | (simp; omega) | (dsimp only; omega))).trans (c := some (.int .u64 al)) (by first | assumption | (simp [go_sem]; done) | (simp [go_sem, *]; done)); have c6 := (hb.cell (p := ⟨w2.heap.size + 1, 0, none⟩) (by first | (simp; done) | (simp; omega) | (dsimp only; omega))).trans (c := some (.int .i64 0)) (by first | assumption | (simp [go_sem]; done) | (simp [go_sem, *]; done)); have c7 := (hb.cell (p := ⟨w2.heap.size + 1, 1, none⟩) (by first | (simp; done) | (simp; omega) | (dsimp only; omega))).trans (c := some (.int .i64 0)) (by first | assumption | (simp [go_sem]; done) | (simp [go_sem, *]; done)); have z0 : b0 < w3.heap.size := (by first | (have := hb.size; simp at this; omega) | (have := hb.size; omega)); have z1 : b1 < w3.heap.size := (by first | (have := hb.size; simp at this; omega) | (have := hb.size; omega)); have z2 : w2.heap.size < w3.heap.size := (by first | (have := hb.size; simp at this; omega) | (have := hb.size; omega)); have z3 : w2.heap.size + 1 < w3.heap.size := (by first | (have := hb.size; simp at this; omega) | (have := hb.size; omega)); have hB := Below.trans (B := w.heap.size) (a := w) (b := _) (c := w3) (by first | assumption | exact (by repeat (first | assumption | exact Below.refl _ _ | refine Below.setCell ?_ (by first | omega | (simp; done) | (simp; omega)) _ | refine below_drewN ?_ _ | refine Below.drew ?_ | refine Below.alloc ?_ (by first | omega | (simp; done) | (simp; omega)) _ | refine Below.trans ?_ (Below.mono (by assumption) (by first | omega | (simp; done) | (simp; omega)))))) (hb.mono (by first | (simp; done) | (simp; omega) | omega)); clear hb
  rcases ord_cases t u with ⟨h1, ho⟩ | ⟨h1, ho⟩ | ⟨h1, ho⟩ | ⟨h1, ho⟩ | ⟨h1, ho⟩
  · have ho := HO.out.symm.trans ho
    subst ho
    have f1 : ¬ u.size ≤ t.size := by omega
    go_wp2_with fail
    refine (HC.out _).mono ?_
    rintro e w4 ⟨rfl, hb⟩
    have c0 := (hb.cell (p := ⟨b0, 0, none⟩) (by first | (simp; done) | (simp; omega) | (dsimp only; omega))).trans (c := some (.int .u64 ah)) (by first | assumption | (simp [go_sem]; done) | (simp [go_sem, *]; done)); have c1 := (hb.cell (p := ⟨b0, 1, none⟩) (by first | (simp; done) | (simp; omega) | (dsimp only; omega))).trans (c := some (.int .u64 al)) (by first | assumption | (simp [go_sem]; done) | (simp [go_sem, *]; done)); have c2 := (hb.cell (p := ⟨b1, 0, none⟩) (by first | (simp; done) | (simp; omega) | (dsimp only; omega))).trans (c := some (.int .u64 bh)) (by first | assumption | (simp [go_sem]; done) | (simp [go_sem, *]; done)); have c3 := (hb.cell (p := ⟨b1, 1, none⟩) (by first | (simp; done) | (simp; omega) | (dsimp only; omega))).trans (c := some (.int .u64 bl)) (by first | assumption | (simp [go_sem]; done) | (simp [go_sem, *]; done)); have z0 : b0 < w4.heap.size := (by first | (have := hb.size; simp at this; omega) | (have := hb.size; omega)); have z1 : b1 < w4.heap.size := (by first | (have := hb.size; simp at this; omega) | (have := hb.size; omega)); have hB := Below.trans (B := w.heap.size) (a := w) (b := _) (c := w4) (by first | assumption | exact (by repeat (first | assumption | exact Below.refl _ _ | refine Below.setCell ?_ (by first | omega | (simp; done) | (simp; omega)) _ | refine below_drewN ?_ _ | refine Below.drew ?_ | refine Below.alloc ?_ (by first | omega | (simp; done) | (simp; omega)) _ | refine Below.trans ?_ (Below.mono (by assumption) (by first | omega | (simp; done) | (simp; omega)))))) (hb.mono (by first | (simp; done) | (simp; omega) | omega)); clear hb
    go_wp2_with fail
    refine (HD.out _).mono ?_
    rintro e w5 ⟨rfl, hb⟩
    have c0 := (hb.cell (p := ⟨b0, 0, none⟩) (by first | (simp; done) | (simp; omega) | (dsimp only; omega))).trans (c := some (.int .u64 ah)) (by first | assumption | (simp [go_sem]; done) | (simp [go_sem, *]; done)); have c1 := (hb.cell (p := ⟨b0, 1, none⟩) (by first | (simp; done) | (simp; omega) | (dsimp only; omega))).trans (c := some (.int .u64 al)) (by first | assumption | (simp [go_sem]; done) | (simp [go_sem, *]; done)); have c2 := (hb.cell (p := ⟨b1, 0, none⟩) (by first | (simp; done) | (simp; omega) | (dsimp only; omega))).trans (c := some (.int .u64 bh)) (by first | assumption | (simp [go_sem]; done) | (simp [go_sem, *]; done)); have c3 := (hb.cell (p := ⟨b1, 1, none⟩) (by first | (simp; done) | (simp; omega) | (dsimp only; omega))).trans (c := some (.int .u64 bl)) (by first | assumption | (simp [go_sem]; done) | (simp [go_sem, *]; done)); have z0 : b0 < w5.heap.size := (by first | (have := hb.size; simp at this; omega) | (have := hb.size; omega)); have z1 : b1 < w5.heap.size := (by first | (have := hb.size; simp at this; omega) | (have := hb.size; omega)); have hB := Below.trans (B := w.heap.size) (a := w) (b := _) (c := w5) (by first | assumption | exact (by repeat (first | assumption | exact Below.refl _ _ | refine Below.setCell ?_ (by first | omega | (simp; done) | (simp; omega)) _ | refine below_drewN ?_ _ | refine Below.drew ?_ | refine Below.alloc ?_ (by first | omega | (simp; done) | (simp; omega)) _ | refine Below.trans ?_ (Below.mono (by assumption) (by first | omega | (simp; done) | (simp; omega)))))) (hb.mono (by first | (simp; done) | (simp; omega) | omega)); clear hb
    go_wp2
    go_ret
    exact ⟨rfl, hB⟩
  · have ho := HO.out.symm.trans ho
    subst ho
    obtain ⟨h1, h2⟩ := h1
    have f1 : u.size ≤ t.size := by omega
    have f2 : (t.size : Int) = (u.size : Int) := by omega
    have f3 : ¬ t.size < u.size := by omega
    clear h1
    go_wp2_with fail
    refine (HC.out _).mono ?_
    rintro e w4 ⟨rfl, hb⟩
    have c0 := (hb.cell (p := ⟨b0, 0, none⟩) (by first | (simp; done) | (simp; omega) | (dsimp only; omega))).trans (c := some (.int .u64 ah)) (by first | assumption | (simp [go_sem]; done) | (simp [go_sem, *]; done)); have c1 := (hb.cell (p := ⟨b0, 1, none⟩) (by first | (simp; done) | (simp; omega) | (dsimp only; omega))).trans (c := some (.int .u64 al)) (by first | assumption | (simp [go_sem]; done) | (simp [go_sem, *]; done)); have c2 := (hb.cell (p := ⟨b1, 0, none⟩) (by first | (simp; done) | (simp; omega) | (dsimp only; omega))).trans (c := some (.int .u64 bh)) (by first | assumption | (simp [go_sem]; done) | (simp [go_sem, *]; done)); have c3 := (hb.cell (p := ⟨b1, 1, none⟩) (by first | (simp; done) | (simp; omega) | (dsimp only; omega))).trans (c := some (.int .u64 bl)) (by first | assumption | (simp [go_sem]; done) | (simp [go_sem, *]; done)); have z0 : b0 < w4.heap.size := (by first | (have := hb.size; simp at this; omega) | (have := hb.size; omega)); have z1 : b1 < w4.heap.size := (by first | (have := hb.size; simp at this; omega) | (have := hb.size; omega)); have hB := Below.trans (B := w.heap.size) (a := w) (b := _) (c := w4) (by first | assumption | exact (by repeat (first | assumption | exact Below.refl _ _ | refine Below.setCell ?_ (by first | omega | (simp; done) | (simp; omega)) _ | refine below_drewN ?_ _ | refine Below.drew ?_ | refine Below.alloc ?_ (by first | omega | (simp; done) | (simp; omega)) _ | refine Below.trans ?_ (Below.mono (by assumption) (by first | omega | (simp; done) | (simp; omega)))))) (hb.mono (by first | (simp; done) | (simp; omega) | omega)); clear hb
    go_wp2_with fail
    refine (HD.out _).mono ?_
    rintro e w5 ⟨rfl, hb⟩
    have c0 := (hb.cell (p := ⟨b0, 0, none⟩) (by first | (simp; done) | (simp; omega) | (dsimp only; omega))).trans (c := some (.int .u64 ah)) (by first | assumption | (simp [go_sem]; done) | (simp [go_sem, *]; done)); have c1 := (hb.cell (p := ⟨b0, 1, none⟩) (by first | (simp; done) | (simp; omega) | (dsimp only; omega))).trans (c := some (.int .u64 al)) (by first | assumption | (simp [go_sem]; done) | (simp [go_sem, *]; done)); have c2 := (hb.cell (p := ⟨b1, 0, none⟩) (by first | (simp; done) | (simp; omega) | (dsimp only; omega))).trans (c := some (.int .u64 bh)) (by first | assumption | (simp [go_sem]; done) | (simp [go_sem, *]; done)); have c3 := (hb.cell (p := ⟨b1, 1, none⟩) (by first | (simp; done) | (simp; omega) | (dsimp only; omega))).trans (c := some (.int .u64 bl)) (by first | assumption | (simp [go_sem]; done) | (simp [go_sem, *]; done)); have z0 : b0 < w5.heap.size := (by first | (have := hb.size; simp at this; omega) | (have := hb.size; omega)); have z1 : b1 < w5.heap.size := (by first | (have := hb.size; simp at this; omega) | (have := hb.size; omega)); have hB := Below.trans (B := w.heap.size) (a := w) (b := _) (c := w5) (by first | assumption | exact (by repeat (first | assumption | exact Below.refl _ _ | refine Below.setCell ?_ (by first | omega | (simp; done) | (simp; omega)) _ | refine below_drewN ?_ _ | refine Below.drew ?_ | refine Below.alloc ?_ (by first | omega | (simp; done) | (simp; omega)) _ | refine Below.trans ?_ (Below.mono (by assumption) (by first | omega | (simp; done) | (simp; omega)))))) (hb.mono (by first | (simp; done) | (simp; omega) | omega)); clear hb
    go_wp2
    go_ret
    exact ⟨rfl, hB⟩
  · have ho := HO.out.symm.trans ho
    subst ho
    obtain ⟨h1, h2, h3⟩ := h1
    have f1 : u.size ≤ t.size := by omega
    have f2 : (t.size : Int) = (u.size : Int) := by omega
    have f3 : ¬ t.size < u.size := by omega
    clear h1
    go_wp2_with fail
    refine (HC.out _).mono ?_
    rintro e w4 ⟨rfl, hb⟩
    have c0 := (hb.cell (p := ⟨b0, 0, none⟩) (by first | (simp; done) | (simp; omega) | (dsimp only; omega))).trans (c := some (.int .u64 ah)) (by first | assumption | (simp [go_sem]; done) | (simp [go_sem, *]; done)); have c1 := (hb.cell (p := ⟨b0, 1, none⟩) (by first | (simp; done) | (simp; omega) | (dsimp only; omega))).trans (c := some (.int .u64 al)) (by first | assumption | (simp [go_sem]; done) | (simp [go_sem, *]; done)); have c2 := (hb.cell (p := ⟨b1, 0, none⟩) (by first | (simp; done) | (simp; omega) | (dsimp only; omega))).trans (c := some (.int .u64 bh)) (by first | assumption | (simp [go_sem]; done) | (simp [go_sem, *]; done)); have c3 := (hb.cell (p := ⟨b1, 1, none⟩) (by first | (simp; done) | (simp; omega) | (dsimp only; omega))).trans (c := some (.int .u64 bl)) (by first | assumption | (simp [go_sem]; done) | (simp [go_sem, *]; done)); have z0 : b0 < w4.heap.size := (by first | (have := hb.size; simp at this; omega) | (have := hb.size; omega)); have z1 : b1 < w4.heap.size := (by first | (have := hb.size; simp at this; omega) | (have := hb.size; omega)); have hB := Below.trans (B := w.heap.size) (a := w) (b := _) (c := w4) (by first | assumption | exact (by repeat (first | assumption | exact Below.refl _ _ | refine Below.setCell ?_ (by first | omega | (simp; done) | (simp; omega)) _ | refine below_drewN ?_ _ | refine Below.drew ?_ | refine Below.alloc ?_ (by first | omega | (simp; done) | (simp; omega)) _ | refine Below.trans ?_ (Below.mono (by assumption) (by first | omega | (simp; done) | (simp; omega)))))) (hb.mono (by first | (simp; done) | (simp; omega) | omega)); clear hb
    go_wp2_with fail
    refine (HD.out _).mono ?_
    rintro e w5 ⟨rfl, hb⟩
    have c0 := (hb.cell (p := ⟨b0, 0, none⟩) (by first | (simp; done) | (simp; omega) | (dsimp only; omega))).trans (c := some (.int .u64 ah)) (by first | assumption | (simp [go_sem]; done) | (simp [go_sem, *]; done)); have c1 := (hb.cell (p := ⟨b0, 1, none⟩) (by first | (simp; done) | (simp; omega) | (dsimp only; omega))).trans (c := some (.int .u64 al)) (by first | assumption | (simp [go_sem]; done) | (simp [go_sem, *]; done)); have c2 := (hb.cell (p := ⟨b1, 0, none⟩) (by first | (simp; done) | (simp; omega) | (dsimp only; omega))).trans (c := some (.int .u64 bh)) (by first | assumption | (simp [go_sem]; done) | (simp [go_sem, *]; done)); have c3 := (hb.cell (p := ⟨b1, 1, none⟩) (by first | (simp; done) | (simp; omega) | (dsimp only; omega))).trans (c := some (.int .u64 bl)) (by first | assumption | (simp [go_sem]; done) | (simp [go_sem, *]; done)); have z0 : b0 < w5.heap.size := (by first | (have := hb.size; simp at this; omega) | (have := hb.size; omega)); have z1 : b1 < w5.heap.size := (by first | (have := hb.size; simp at this; omega) | (have := hb.size; omega)); have hB := Below.trans (B := w.heap.size) (a := w) (b := _) (c := w5) (by first | assumption | exact (by repeat (first | assumption | exact Below.refl _ _ | refine Below.setCell ?_ (by first | omega | (simp; done) | (simp; omega)) _ | refine below_drewN ?_ _ | refine Below.drew ?_ | refine Below.alloc ?_ (by first | omega | (simp; done) | (simp; omega)) _ | refine Below.trans ?_ (Below.mono (by assumption) (by first | omega | (simp; done) | (simp; omega)))))) (hb.mono (by first | (simp; done) | (simp; omega) | omega)); clear hb
    go_wp2
    go_ret
    exact ⟨rfl, hB⟩
  · have ho := HO.out.symm.trans ho
    subst ho
    obtain ⟨h1, h2, h3⟩ := h1
    have f1 : u.size ≤ t.size := by omega
    have f2 : (t.size : Int) = (u.size : Int) := by omega
    have f3 : ¬ t.size < u.size := by omega
    clear h1
    go_wp2_with fail
    refine (HC.out _).mono ?_
    rintro e w4 ⟨rfl, hb⟩
    have c0 := (hb.cell (p := ⟨b0, 0, none⟩) (by first | (simp; done) | (simp; omega) | (dsimp only; omega))).trans (c := some (.int .u64 ah)) (by first | assumption | (simp [go_sem]; done) | (simp [go_sem, *]; done)); have c1 := (hb.cell (p := ⟨b0, 1, none⟩) (by first | (simp; done) | (simp; omega) | (dsimp only; omega))).trans (c := some (.int .u64 al)) (by first | assumption | (simp [go_sem]; done) | (simp [go_sem, *]; done)); have c2 := (hb.cell (p := ⟨b1, 0, none⟩) (by first | (simp; done) | (simp; omega) | (dsimp only; omega))).trans (c := some (.int .u64 bh)) (by first | assumption | (simp [go_sem]; done) | (simp [go_sem, *]; done)); have c3 := (hb.cell (p := ⟨b1, 1, none⟩) (by first | (simp; done) | (simp; omega) | (dsimp only; omega))).trans (c := some (.int .u64 bl)) (by first | assumption | (simp [go_sem]; done) | (simp [go_sem, *]; done)); have z0 : b0 < w4.heap.size := (by first | (have := hb.size; simp at this; omega) | (have := hb.size; omega)); have z1 : b1 < w4.heap.size := (by first | (have := hb.size; simp at this; omega) | (have := hb.size; omega)); have hB := Below.trans (B := w.heap.size) (a := w) (b := _) (c := w4) (by first | assumption | exact (by repeat (first | assumption | exact Below.refl _ _ | refine Below.setCell ?_ (by first | omega | (simp; done) | (simp; omega)) _ | refine below_drewN ?_ _ | refine Below.drew ?_ | refine Below.alloc ?_ (by first | omega | (simp; done) | (simp; omega)) _ | refine Below.trans ?_ (Below.mono (by assumption) (by first | omega | (simp; done) | (simp; omega)))))) (hb.mono (by first | (simp; done) | (simp; omega) | omega)); clear hb
    go_wp2_with fail
    refine (HD.out _).mono ?_
    rintro e w5 ⟨rfl, hb⟩
    have c0 := (hb.cell (p := ⟨b0, 0, none⟩) (by first | (simp; done) | (simp; omega) | (dsimp only; omega))).trans (c := some (.int .u64 ah)) (by first | assumption | (simp [go_sem]; done) | (simp [go_sem, *]; done)); have c1 := (hb.cell (p := ⟨b0, 1, none⟩) (by first | (simp; done) | (simp; omega) | (dsimp only; omega))).trans (c := some (.int .u64 al)) (by first | assumption | (simp [go_sem]; done) | (simp [go_sem, *]; done)); have c2 := (hb.cell (p := ⟨b1, 0, none⟩) (by first | (simp; done) | (simp; omega) | (dsimp only; omega))).trans (c := some (.int .u64 bh)) (by first | assumption | (simp [go_sem]; done) | (simp [go_sem, *]; done)); have c3 := (hb.cell (p := ⟨b1, 1, none⟩) (by first | (simp; done) | (simp; omega) | (dsimp only; omega))).trans (c := some (.int .u64 bl)) (by first | assumption | (simp [go_sem]; done) | (simp [go_sem, *]; done)); have z0 : b0 < w5.heap.size := (by first | (have := hb.size; simp at this; omega) | (have := hb.size; omega)); have z1 : b1 < w5.heap.size := (by first | (have := hb.size; simp at this; omega) | (have := hb.size; omega)); have hB := Below.trans (B := w.heap.size) (a := w) (b := _) (c := w5) (by first | assumption | exact (by repeat (first | assumption | exact Below.refl _ _ | refine Below.setCell ?_ (by first | omega | (simp; done) | (simp; omega)) _ | refine below_drewN ?_ _ | refine Below.drew ?_ | refine Below.alloc ?_ (by first | omega | (simp; done) | (simp; omega)) _ | refine Below.trans ?_ (Below.mono (by assumption) (by first | omega | (simp; done) | (simp; omega)))))) (hb.mono (by first | (simp; done) | (simp; omega) | omega)); clear hb
    go_wp2
    go_ret
    exact ⟨rfl, hB⟩
  · have ho := HO.out.symm.trans ho
    subst ho
    obtain ⟨h1, h3⟩ := h1
    have f1 : u.size ≤ t.size := by omega
    have f2 : ¬ (t.size : Int) = (u.size : Int) := by omega
    have f3 : ¬ t.size < u.size := by omega
    clear h1
    go_wp2_with fail
    refine (HC.out _).mono ?_
    rintro e w4 ⟨rfl, hb⟩
    have c0 := (hb.cell (p := ⟨b0, 0, none⟩) (by first | (simp; done) | (simp; omega) | (dsimp only; omega))).trans (c := some (.int .u64 ah)) (by first | assumption | (simp [go_sem]; done) | (simp [go_sem, *]; done)); have c1 := (hb.cell (p := ⟨b0, 1, none⟩) (by first | (simp; done) | (simp; omega) | (dsimp only; omega))).trans (c := some (.int .u64 al)) (by first | assumption | (simp [go_sem]; done) | (simp [go_sem, *]; done)); have c2 := (hb.cell (p := ⟨b1, 0, none⟩) (by first | (simp; done) | (simp; omega) | (dsimp only; omega))).trans (c := some (.int .u64 bh)) (by first | assumption | (simp [go_sem]; done) | (simp [go_sem, *]; done)); have c3 := (hb.cell (p := ⟨b1, 1, none⟩) (by first | (simp; done) | (simp; omega) | (dsimp only; omega))).trans (c := some (.int .u64 bl)) (by first | assumption | (simp [go_sem]; done) | (simp [go_sem, *]; done)); have z0 : b0 < w4.heap.size := (by first | (have := hb.size; simp at this; omega) | (have := hb.size; omega)); have z1 : b1 < w4.heap.size := (by first | (have := hb.size; simp at this; omega) | (have := hb.size; omega)); have hB := Below.trans (B := w.heap.size) (a := w) (b := _) (c := w4) (by first | assumption | exact (by repeat (first | assumption | exact Below.refl _ _ | refine Below.setCell ?_ (by first | omega | (simp; done) | (simp; omega)) _ | refine below_drewN ?_ _ | refine Below.drew ?_ | refine Below.alloc ?_ (by first | omega | (simp; done) | (simp; omega)) _ | refine Below.trans ?_ (Below.mono (by assumption) (by first | omega | (simp; done) | (simp; omega)))))) (hb.mono (by first | (simp; done) | (simp; omega) | omega)); clear hb
    go_wp2_with fail
    refine (HD.out _).mono ?_
    rintro e w5 ⟨rfl, hb⟩
    have c0 := (hb.cell (p := ⟨b0, 0, none⟩) (by first | (simp; done) | (simp; omega) | (dsimp only; omega))).trans (c := some (.int .u64 ah)) (by first | assumption | (simp [go_sem]; done) | (simp [go_sem, *]; done)); have c1 := (hb.cell (p := ⟨b0, 1, none⟩) (by first | (simp; done) | (simp; omega) | (dsimp only; omega))).trans (c := some (.int .u64 al)) (by first | assumption | (simp [go_sem]; done) | (simp [go_sem, *]; done)); have c2 := (hb.cell (p := ⟨b1, 0, none⟩) (by first | (simp; done) | (simp; omega) | (dsimp only; omega))).trans (c := some (.int .u64 bh)) (by first | assumption | (simp [go_sem]; done) | (simp [go_sem, *]; done)); have c3 := (hb.cell (p := ⟨b1, 1, none⟩) (by first | (simp; done) | (simp; omega) | (dsimp only; omega))).trans (c := some (.int .u64 bl)) (by first | assumption | (simp [go_sem]; done) | (simp [go_sem, *]; done)); have z0 : b0 < w5.heap.size := (by first | (have := hb.size; simp at this; omega) | (have := hb.size; omega)); have z1 : b1 < w5.heap.size := (by first | (have := hb.size; simp at this; omega) | (have := hb.size; omega)); have hB := Below.trans (B := w.heap.size) (a := w) (b := _) (c := w5) (by first | assumption | exact (by repeat (first | assumption | exact Below.refl _ _ | refine Below.setCell ?_ (by first | omega | (simp; done) | (simp; omega)) _ | refine below_drewN ?_ _ | refine Below.drew ?_ | refine Below.alloc ?_ (by first | omega | (simp; done) | (simp; omega)) _ | refine Below.trans ?_ (Below.mono (by assumption) (by first | omega | (simp; done) | (simp; omega)))))) (hb.mono (by first | (simp; done) | (simp; omega) | omega)); clear hb
    go_wp2
    go_ret
    exact ⟨rfl, hB⟩

set_option maxRecDepth 100000 in
set_option maxHeartbeats 4000000 in
theorem ba_long (ah al bh bl : Int) (s : ByteArray) (w : World) (hs : ¬ s.size ≤ 100) :
    Calls Try.prog 9 #[.agg #[.int .u64 ah, .int .u64 al], .agg #[.int .u64 bh, .int .u64 bl], .string s] w fun e w' => e = .returned (.bool true) ∧ Below w.heap.size w w' := by
  have ss : decide (100 < (s.size : Int)) = true := by simp; omega
  clear hs
  go_enter Try.func9, Try.ntmps9
  go_wp2_with fail
  refine (known_any _).mono ?_
  rintro e w1 ⟨rfl, hb⟩
  have hs := hb.size
  simp only [World.size_alloc] at hs
  have hB : Below w.heap.size w w1 := (by repeat (first | assumption | exact Below.refl _ _ | refine Below.setCell ?_ (by first | omega | (simp; done) | (simp; omega)) _ | refine below_drewN ?_ _ | refine Below.drew ?_ | refine Below.alloc ?_ (by first | omega | (simp; done) | (simp; omega)) _ | refine Below.trans ?_ (Below.mono (by assumption) (by first | omega | (simp; done) | (simp; omega)))))
  have c0 := (hb.cell (p := ⟨w.heap.size, 0, none⟩) (by first | (simp; done) | (simp; omega) | (dsimp only; omega))).trans (c := some (.int .u64 ah)) (by simp [go_sem])
  have c1 := (hb.cell (p := ⟨w.heap.size, 1, none⟩) (by first | (simp; done) | (simp; omega) | (dsimp only; omega))).trans (c := some (.int .u64 al)) (by simp [go_sem])
  have c2 := (hb.cell (p := ⟨w.heap.size + 1, 0, none⟩) (by first | (simp; done) | (simp; omega) | (dsimp only; omega))).trans (c := some (.int .u64 bh)) (by simp [go_sem])
  have c3 := (hb.cell (p := ⟨w.heap.size + 1, 1, none⟩) (by first | (simp; done) | (simp; omega) | (dsimp only; omega))).trans (c := some (.int .u64 bl)) (by simp [go_sem])
  have z0 : w.heap.size < w1.heap.size := by omega
  have z1 : w.heap.size + 1 < w1.heap.size := by omega
  have hn0 : w.heap.size ≤ w.heap.size := Nat.le_refl _
  have hn1 : w.heap.size ≤ w.heap.size + 1 := by omega
  clear hb hs
  generalize hb1 : w.heap.size + 1 = b1 at *
  obtain ⟨b0, hb0⟩ : ∃ b0, b0 = w.heap.size := ⟨_, rfl⟩
  rw [← hb0] at c0 c1 z0 hn0 ⊢
  have hb0' := hide hb0
  clear hb1 hb0
  go_wp2
  go_ret
  exact ⟨rfl, hB⟩

theorem cmpI_neg (V U : Int) : cmpI U V = - cmpI V U := by
  unfold cmpI
  by_cases h1 : V < U
  · rw [if_neg (by omega), if_pos h1, if_pos h1]; rfl
  · by_cases h2 : U < V
    · rw [if_pos h2, if_neg h1, if_pos h2]
    · rw [if_neg h2, if_neg h1, if_neg h1, if_neg h2]; rfl

theorem back_any (ah al bh bl : Int) (s : ByteArray) (w : World) (ahl : 0 ≤ ah) (ahu : ah < 18446744073709551616) (all : 0 ≤ al) (alu : al < 18446744073709551616) (bhl : 0 ≤ bh) (bhu : bh < 18446744073709551616) (bll : 0 ≤ bl) (blu : bl < 18446744073709551616) :
    Calls Try.prog 9 #[.agg #[.int .u64 ah, .int .u64 al], .agg #[.int .u64 bh, .int .u64 bl], .string s] w fun e w' => e = .returned (.bool true) ∧ Below w.heap.size w w' := by
  by_cases hs : s.size ≤ 100
  · have T := fun W => text_any ah al W ahl ahu all alu
    have U := fun W => text_any bh bl W bhl bhu bll blu
    have C := fun W => wcmp_any ah al bh bl W all alu bll blu
    have D := fun W => wcmp_any bh bl ah al W bll blu all alu
    obtain ⟨V, hV⟩ : ∃ V, V = ah * 18446744073709551616 + al := ⟨_, rfl⟩
    obtain ⟨X, hX⟩ : ∃ X, X = bh * 18446744073709551616 + bl := ⟨_, rfl⟩
    rw [← hV] at T
    rw [← hX] at U
    rw [← hV, ← hX] at C D
    rw [cmpI_neg V X] at D
    have V0 : 0 ≤ V := by omega
    have V1 : V < 340282366920938463463374607431768211456 := by omega
    have X0 : 0 ≤ X := by omega
    have X1 : X < 340282366920938463463374607431768211456 := by omega
    have ho := ord_text V X V0 V1 X0 X1
    have hz : (textOf V).size ≤ 9223372036854775807 := by
      have := digs_len 39 V
      rw [text_size]
      omega
    have R := fun W => read_any (textOf V) W hz
    obtain ⟨r1, r2, r3⟩ := readE_digs V V0 V1
    have e : readRes (nums (textOf V)) = .tuple #[.agg #[.int .u64 ah, .int .u64 al], .agg #[.int .i64 0, .int .i64 0]] := by
      rw [nums_text V V0]
      unfold readRes
      rw [r1, r2, r3, show V / 18446744073709551616 = ah by omega, show V % 18446744073709551616 = al by omega]
    rw [e] at R
    have S := fun W => read_any s W (by omega)
    unfold readRes at S
    by_cases h : readE (nums s) = 0
    · obtain ⟨_, y0, y1⟩ := digs_read _ h
      have hat := (readE_zero _ h).2.2.2.2.2
      have Y := fun W => text_any (readV (nums s) / 18446744073709551616) (readV (nums s) % 18446744073709551616) W (by omega) (by omega) (by omega) (by omega)
      rw [show readV (nums s) / 18446744073709551616 * 18446744073709551616 + readV (nums s) % 18446744073709551616 = readV (nums s) by omega, text_read s h] at Y
      rw [h, hat] at S
      exact ba0 ah al bh bl _ _ 0 0 _ s _ _ w hs ho (hide T) (hide U) (hide R) (hide S) (hide Y) (hide C) (hide D)
    · have hb := readAt_bd (nums s)
      rw [nums_len] at hb
      rw [readV_bad _ h] at S
      exact ba1 ah al bh bl 0 0 (readE (nums s)) (readAt (nums s)) _ s _ _ w hs ho (hide T) (hide U) (hide R) (hide S) (by simp [h]) (by simp [h]) (by simp; omega) (by simp; omega) (hide C) (hide D)
  · exact ba_long ah al bh bl s w hs
end WideO
end Go.Proofs.Ytcokhdajdnkinaa
