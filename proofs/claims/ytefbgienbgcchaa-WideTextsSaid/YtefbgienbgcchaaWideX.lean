/-
  The document's tenth: 128 rounds, bit by bit.
-/
import Derived.Test.YtefbgienbgcchaaWideR
import Derived.Test.YtefbgienbgcchaaWideK
import Derived.Test.YtefbgienbgcchaaTexM
namespace Go.Proofs.Ytefbgienbgcchaa
open Go.RowKit Go.Shelf
namespace WideX
open WideA WideB WideT WideI WideF WideG WideH WideK TexM

/-- What stands at the head of a round. -/
def Ten (w : World) (hi lo : Nat) (r i : Value) (wr : World) : Prop :=
  ∃ h l rr : Nat, r = .int .u64 (rr : Int) ∧ wr.heap[w.heap.size + 1 + 1]? = some (.cells #[.int .u64 (h : Int), .int .u64 (l : Int)] 24 (0, 0)) ∧ wr.heap[w.heap.size + 1]? = some (.cells #[.int .u64 0, .int .u64 0] 24 (0, 0)) ∧ wr.heap[w.heap.size]? = some (.cells #[.int .u64 (hi : Int), .int .u64 (lo : Int)] 24 (0, 0)) ∧ Below w.heap.size w wr ∧
    ((∃ m : Nat, m ≤ 64 ∧ i = .int .i64 ((63 + m : Nat) : Int) ∧ h = QQ 0 hi m ∧ l = 0 ∧ rr = RR 0 hi m) ∨ (∃ m : Nat, m ≤ 64 ∧ i = .int .i64 ((m : Int) - 1) ∧ h = hi / 10 ∧ l = QQ (hi % 10) lo m ∧ rr = RR (hi % 10) lo m))

theorem ways {hi lo h l rr : Nat} {i : Value} (hl : lo < 18446744073709551616) (hways : (∃ m : Nat, m ≤ 64 ∧ i = .int .i64 ((63 + m : Nat) : Int) ∧ h = QQ 0 hi m ∧ l = 0 ∧ rr = RR 0 hi m) ∨ (∃ m : Nat, m ≤ 64 ∧ i = .int .i64 ((m : Int) - 1) ∧ h = hi / 10 ∧ l = QQ (hi % 10) lo m ∧ rr = RR (hi % 10) lo m)) :
    (∃ m : Nat, m < 64 ∧ i = .int .i64 ((64 + m : Nat) : Int) ∧ h = QQ 0 hi (m + 1) ∧ l = 0 ∧ rr = RR 0 hi (m + 1)) ∨ (∃ m : Nat, m ≤ 64 ∧ i = .int .i64 ((m : Int) - 1) ∧ h = hi / 10 ∧ l = QQ (hi % 10) lo m ∧ rr = RR (hi % 10) lo m) := by
  rcases hways with ⟨m, hm, rfl, h1, h2, h3⟩ | hb
  · by_cases h0 : m = 0
    · subst h0
      obtain ⟨s1, s2⟩ := at_start (hi % 10) lo (by omega) hl
      obtain ⟨e1, e2⟩ := at_end 0 hi
      refine .inr ⟨64, by omega, rfl, by rw [h1, e1]; omega, by rw [h2, s1], by rw [h3, e2, s2]; omega⟩
    · obtain ⟨k, rfl⟩ : ∃ k, m = k + 1 := ⟨m - 1, by omega⟩
      exact .inl ⟨k, by omega, by rw [show 63 + (k + 1) = 64 + k by omega], h1, h2, h3⟩
  · exact .inr hb

theorem bit_at (x m : Nat) (hx : x < 18446744073709551616) : bits .and .u64 ((x : Int) / 2 ^ m) 1 = ((x / 2 ^ m % 2 : Nat) : Int) := by
  have h := bits_and_u64_nat (x / 2 ^ m) 1 (Nat.lt_of_le_of_lt (Nat.div_le_self _ _) hx) (by omega)
  have e : x / 2 ^ m &&& 1 = x / 2 ^ m % 2 := Nat.and_two_pow_sub_one_eq_mod _ 1
  rw [e] at h
  rw [← h]
  congr 1
theorem set_at (h m : Nat) (hh : h < 18446744073709551616) (hm : m < 64) : bits .or .u64 (h : Int) (IntKind.u64.wrap (2 ^ m)) = ((h ||| 2 ^ m : Nat) : Int) := by
  have hp : (2 : Nat) ^ m < 2 ^ 64 := Nat.pow_lt_pow_right (by omega) hm
  have e64 : (2 : Nat) ^ 64 = 18446744073709551616 := by decide
  rw [e64] at hp
  have : ((2 : Int) ^ m) = ((2 ^ m : Nat) : Int) := by simp
  rw [this]
  generalize (2 : Nat) ^ m = p at *
  rw [← bits_or_u64_nat h p hh hp]
  congr 1
  rw [IntKind.wrap_u64]
  omega
theorem two_first {W : World} {b : Nat} {x y : Value} {t : TypeId} (x' : Value) (h : W.heap[b]? = some (.cells #[x, y] t (0, 0))) : (W.setCell ⟨b, 0, none⟩ x').heap[b]? = some (.cells #[x', y] t (0, 0)) := by
  have h1 := heap_setCell_same W b 0 #[x, y] t x' h
  simpa using h1
theorem two_second {W : World} {b : Nat} {x y : Value} {t : TypeId} (y' : Value) (h : W.heap[b]? = some (.cells #[x, y] t (0, 0))) : (W.setCell ⟨b, 1, none⟩ y').heap[b]? = some (.cells #[x, y'] t (0, 0)) := by
  have h1 := heap_setCell_same W b 1 #[x, y] t y' h
  simpa using h1

set_option maxHeartbeats 2000000 in
theorem rtenth (hi lo qh q r : Nat) (w : World) (hh : hi < 18446744073709551616) (hl : lo < 18446744073709551616) (eqh : qh = hi / 10) (eq : q = (hi % 10 * 18446744073709551616 + lo) / 10) (er : r = (hi % 10 * 18446744073709551616 + lo) % 10) :
    Calls Try.prog 51 #[.agg #[.int .u64 (hi : Int), .int .u64 (lo : Int)]] w fun e w' =>
      e = .returned (.tuple #[.agg #[.int .u64 (qh : Int), .int .u64 (q : Int)], .int .u8 (r : Int)]) ∧ Below w.heap.size w w' := by
  have HH := hide hh
  have HL := hide hl
  have EH := hide eqh
  have EQ := hide eq
  have ER := hide er
  clear eqh eq er
  have hst : Ten w hi lo (.int .u64 0) (.int .i64 127) (((w.alloc (.cells #[.int .u64 (hi : Int), .int .u64 (lo : Int)] 24)).alloc (.cells #[.int .u64 0, .int .u64 0] 24)).alloc (.cells #[.int .u64 0, .int .u64 0] 24)) := by
    obtain ⟨s1, s2⟩ := at_start 0 hi (by decide) hh
    refine ⟨0, 0, 0, rfl, ?_, ?_, ?_, (by repeat (first | assumption | exact Below.refl _ _ | refine Below.setCell ?_ (by first | omega | (simp; done) | (simp; omega)) _ | refine below_drewN ?_ _ | refine Below.drew ?_ | refine Below.alloc ?_ (by first | omega | (simp; done) | (simp; omega)) _ | refine Below.trans ?_ (Below.mono (by assumption) (by first | omega | (simp; done) | (simp; omega))))), .inl ⟨64, by omega, rfl, s1.symm, rfl, s2.symm⟩⟩
    · have := World.alloc_heap_new ((w.alloc (.cells #[.int .u64 (hi : Int), .int .u64 (lo : Int)] 24)).alloc (.cells #[.int .u64 0, .int .u64 0] 24)) (.cells #[.int .u64 0, .int .u64 0] 24)
      rw [World.size_alloc, World.size_alloc] at this
      exact this
    · rw [Below.heap_alloc _ _ _ (by simp)]
      have := World.alloc_heap_new (w.alloc (.cells #[.int .u64 (hi : Int), .int .u64 (lo : Int)] 24)) (.cells #[.int .u64 0, .int .u64 0] 24)
      rw [World.size_alloc] at this
      exact this
    · rw [Below.heap_alloc _ _ _ (by simp; omega), Below.heap_alloc _ _ _ (by simp)]
      exact World.alloc_heap_new w (.cells #[.int .u64 (hi : Int), .int .u64 (lo : Int)] 24)
  have HST := hide hst
  clear hst hh hl
  go_enter Try.func51, Try.ntmps51
  go_wp2_with fail
  go_loopw [5, 6] (fun r i wr => Ten w hi lo r i wr) (fun _ i _ => (intOf i + 1).toNat)
  case atStart => exact HST.out
  case round =>
    obtain ⟨h, l, rr, rfl, hq, hres, hbox, hB, hways⟩ := hrel
    have hw2 := ways HL.out hways
    clear hways
    obtain ⟨q0, q1, qf0, qf1⟩ := two_cells hq
    obtain ⟨e0, e1, ef0, ef1⟩ := two_cells hres
    obtain ⟨b0, b1, _, _⟩ := two_cells hbox
    have HQ := hide hq
    have HR := hide hres
    have HX := hide hbox
    clear hq hres hbox
    rcases hw2 with ⟨m, hm, rfl, h1, rfl, h3⟩ | ⟨m, hm, rfl, h1, h2, h3⟩
    · obtain ⟨j, hj⟩ : ∃ j, j = 64 + m := ⟨_, rfl⟩
      rw [← hj]
      have j1 : 64 ≤ j := by omega
      have j2 : j < 128 := by omega
      have jm : (j : Int) % 64 = (m : Int) := by omega
      have rl : rr < 10 := by rw [h3]; exact RR_lt _ _ _
      have HJ := hide hj
      have H1 := hide h1
      have H3 := hide h3
      clear hj h1 h3
      have bt := bit_at hi m HH.out
      have bt2 := bit_at lo m HL.out
      obtain ⟨b, hbe⟩ : ∃ b, b = hi / 2 ^ m % 2 := ⟨_, rfl⟩
      obtain ⟨c, hce⟩ : ∃ c, c = lo / 2 ^ m % 2 := ⟨_, rfl⟩
      rw [← hbe] at bt
      rw [← hce] at bt2
      have bl : b < 2 := by omega
      have cl : c < 2 := by omega
      have HBE := hide hbe
      clear hbe hce
      by_cases hsm : rr * 2 + b < 10
      · have st := step_small 0 hi m hm (by rw [← H3.out, ← HBE.out]; exact hsm)
        rw [← H3.out, ← HBE.out, ← H1.out] at st
        have ST := hide st
        have hsI : (rr : Int) * 2 + (b : Int) < 10 := by omega
        clear st hsm
        go_wp2
        go_roundw
        case rel =>
          exact ⟨h, 0, rr * 2 + b, by go_num, HQ.out, HR.out, HX.out, hB, .inl ⟨m, by omega, by have := HJ.out; rw [show ((63 + m : Nat) : Int) = (j : Int) - 1 by omega], ST.out.2.symm, rfl, ST.out.1.symm⟩⟩
        case measure => simp [intOf]
      · have st := step_big 0 hi m hm (by rw [← H3.out, ← HBE.out]; omega)
        rw [← H3.out, ← HBE.out, ← H1.out] at st
        have hlt : h < 18446744073709551616 := by rw [H1.out]; exact QQ_lt 0 hi (m + 1) (by omega) (by decide) HH.out
        have so := set_at h m hlt hm
        have ST := hide st
        have hsI : ¬ (rr : Int) * 2 + (b : Int) < 10 := by omega
        have hsJ : 10 ≤ (rr : Int) * 2 + (b : Int) := by omega
        clear st hsm
        go_wp2
        go_roundw
        case rel =>
          refine ⟨h ||| 2 ^ m, 0, rr * 2 + b - 10, ?_, two_first _ HQ.out, ?_, ?_, hB.setCell (p := ⟨w.heap.size + 1 + 1, 0, none⟩) (by show w.heap.size ≤ w.heap.size + 1 + 1; omega) _, .inl ⟨m, by omega, by have := HJ.out; rw [show ((63 + m : Nat) : Int) = (j : Int) - 1 by omega], ST.out.2.symm, rfl, ST.out.1.symm⟩⟩
          · congr 1; omega
          · rw [Below.heap_setCell _ _ _ _ (by show w.heap.size + 1 ≠ w.heap.size + 1 + 1; omega)]; exact HR.out
          · rw [Below.heap_setCell _ _ _ _ (by show w.heap.size ≠ w.heap.size + 1 + 1; omega)]; exact HX.out
        case measure => simp [intOf]
    · by_cases h0 : m = 0
      · subst h0
        obtain ⟨a1, a2⟩ := at_end (hi % 10) lo
        obtain rfl : l = q := by rw [EQ.out, h2, a1]
        obtain rfl : rr = r := by rw [ER.out, h3, a2]
        obtain rfl : h = qh := by rw [EH.out, h1]
        have hr8 : (IntKind.u8.wrap (rr : Int)) = (rr : Int) := by have := RR_lt (hi % 10) lo 0; rw [IntKind.wrap_u8]; omega
        clear h1 h2 h3 a1 a2
        go_wp2
        exact bodyPost_ret (v := .tuple #[.agg #[.int .u64 (h : Int), .int .u64 (l : Int)], .int .u8 (rr : Int)]) (by simp [results, Try.results51, go_sem, e0, e1]) rfl ⟨rfl, (by repeat (first | assumption | exact Below.refl _ _ | refine Below.setCell ?_ (by first | omega | (simp; done) | (simp; omega)) _ | refine below_drewN ?_ _ | refine Below.drew ?_ | refine Below.alloc ?_ (by first | omega | (simp; done) | (simp; omega)) _ | refine Below.trans ?_ (Below.mono (by assumption) (by first | omega | (simp; done) | (simp; omega)))))⟩
      · obtain ⟨k, rfl⟩ : ∃ k, m = k + 1 := ⟨m - 1, by omega⟩
        rw [show ((k + 1 : Nat) : Int) - 1 = (k : Int) by omega]
        have hk : k < 64 := by omega
        have j1 : ¬ 64 ≤ k := by omega
        have jm : (k : Int) % 64 = (k : Int) := by omega
        have rl : rr < 10 := by rw [h3]; exact RR_lt _ _ _
        have bt2 := bit_at lo k HL.out
        obtain ⟨b, hbe⟩ : ∃ b, b = lo / 2 ^ k % 2 := ⟨_, rfl⟩
        rw [← hbe] at bt2
        have bl : b < 2 := by omega
        have HBE := hide hbe
        have H1 := hide h1
        have H2 := hide h2
        have H3 := hide h3
        clear hbe h1 h2 h3 h0 hm
        by_cases hsm : rr * 2 + b < 10
        · have st := step_small (hi % 10) lo k hk (by rw [← H3.out, ← HBE.out]; exact hsm)
          rw [← H3.out, ← HBE.out, ← H2.out] at st
          have ST := hide st
          have hsI : (rr : Int) * 2 + (b : Int) < 10 := by omega
          clear st hsm
          go_wp2
          go_roundw
          case rel =>
            exact ⟨h, l, rr * 2 + b, by go_num, HQ.out, HR.out, HX.out, hB, .inr ⟨k, by omega, rfl, H1.out, ST.out.2.symm, ST.out.1.symm⟩⟩
          case measure => simp [intOf]
        · have st := step_big (hi % 10) lo k hk (by rw [← H3.out, ← HBE.out]; omega)
          rw [← H3.out, ← HBE.out, ← H2.out] at st
          have hlt : l < 18446744073709551616 := by rw [H2.out]; exact QQ_lt (hi % 10) lo (k + 1) (by omega) (by omega) HL.out
          have so := set_at l k hlt hk
          have ST := hide st
          have hsI : ¬ (rr : Int) * 2 + (b : Int) < 10 := by omega
          have hsJ : 10 ≤ (rr : Int) * 2 + (b : Int) := by omega
          clear st hsm
          go_wp2
          go_roundw
          case rel =>
            refine ⟨h, l ||| 2 ^ k, rr * 2 + b - 10, ?_, two_second _ HQ.out, ?_, ?_, hB.setCell (p := ⟨w.heap.size + 1 + 1, 1, none⟩) (by show w.heap.size ≤ w.heap.size + 1 + 1; omega) _, .inr ⟨k, by omega, rfl, H1.out, ST.out.2.symm, ST.out.1.symm⟩⟩
            · congr 1; omega
            · rw [Below.heap_setCell _ _ _ _ (by show w.heap.size + 1 ≠ w.heap.size + 1 + 1; omega)]; exact HR.out
            · rw [Below.heap_setCell _ _ _ _ (by show w.heap.size ≠ w.heap.size + 1 + 1; omega)]; exact HX.out
          case measure => simp [intOf]
end WideX
end Go.Proofs.Ytefbgienbgcchaa
