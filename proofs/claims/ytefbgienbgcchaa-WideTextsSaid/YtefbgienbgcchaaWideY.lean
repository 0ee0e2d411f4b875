/-
  The document's Text of a wide.
-/
import Derived.Test.YtefbgienbgcchaaWideX
namespace Go.Proofs.Ytefbgienbgcchaa
open Go.RowKit Go.Shelf
namespace WideY
open WideA WideB WideT WideI WideF WideG WideH WideK WideX

theorem rtenth_any (hi lo : Int) (w : World) (hil : 0 ≤ hi) (hiu : hi < 18446744073709551616) (lol : 0 ≤ lo) (lou : lo < 18446744073709551616) :
    Calls Try.prog 51 #[.agg #[.int .u64 hi, .int .u64 lo]] w fun e w' =>
      e = .returned (.tuple #[.agg #[.int .u64 ((hi * 18446744073709551616 + lo) / 10 / 18446744073709551616), .int .u64 ((hi * 18446744073709551616 + lo) / 10 % 18446744073709551616)], .int .u8 ((hi * 18446744073709551616 + lo) % 10)]) ∧ Below w.heap.size w w' := by
  obtain ⟨h, rfl⟩ := Int.eq_ofNat_of_zero_le hil
  obtain ⟨l, rfl⟩ := Int.eq_ofNat_of_zero_le lol
  have C := rtenth h l _ _ _ w (by omega) (by omega) rfl rfl rfl
  rw [show (((h / 10 : Nat)) : Int) = ((h : Int) * 18446744073709551616 + l) / 10 / 18446744073709551616 by omega, show (((h % 10 * 18446744073709551616 + l) / 10 : Nat) : Int) = ((h : Int) * 18446744073709551616 + l) / 10 % 18446744073709551616 by omega, show (((h % 10 * 18446744073709551616 + l) % 10 : Nat) : Int) = ((h : Int) * 18446744073709551616 + l) % 10 by omega] at C
  exact C

theorem str_cons (c : Int) (l : List Int) : strOfNums [c] ++ strOfNums l = strOfNums (c :: l) := by
  unfold strOfNums
  apply ByteArray.ext
  simp
theorem str_size (l : List Int) : (strOfNums l).size = l.length := by unfold strOfNums; simp [ByteArray.size]

/-- What stands at the head of a round of Text. -/
def Tex (w : World) (V : Int) (o : Value) (wr : World) : Prop :=
  ∃ (pre : List Int) (f : Nat) (A : Int), o = .string (strOfNums pre.reverse) ∧ 0 ≤ A ∧ A < 340282366920938463463374607431768211456 ∧ A < 10 ^ (f + 1) ∧ pre ++ digs (f + 1) A = digs 39 V ∧ wr.heap[w.heap.size]? = some (.cells #[.int .u64 (A / 18446744073709551616), .int .u64 (A % 18446744073709551616)] 24 (0, 0)) ∧ Below w.heap.size w wr ∧ w.heap.size < wr.heap.size

set_option maxHeartbeats 2000000 in
theorem rtext_any (hi lo : Int) (w : World) (hil : 0 ≤ hi) (hiu : hi < 18446744073709551616) (lol : 0 ≤ lo) (lou : lo < 18446744073709551616) :
    Calls Try.prog 30 #[.agg #[.int .u64 hi, .int .u64 lo]] w fun e w' =>
      e = .returned (.string (textOf (hi * 18446744073709551616 + lo))) ∧ Below w.heap.size w w' := by
  obtain ⟨V, hV⟩ : ∃ V, V = hi * 18446744073709551616 + lo := ⟨_, rfl⟩
  rw [← hV]
  have hst : Tex w V (.string ⟨#[]⟩) (w.alloc (.cells #[.int .u64 hi, .int .u64 lo] 24)) := by
    refine ⟨[], 38, V, rfl, by omega, by omega, by omega, rfl, ?_, (by repeat (first | assumption | exact Below.refl _ _ | refine Below.setCell ?_ (by first | omega | (simp; done) | (simp; omega)) _ | refine below_drewN ?_ _ | refine Below.drew ?_ | refine Below.alloc ?_ (by first | omega | (simp; done) | (simp; omega)) _ | refine Below.trans ?_ (Below.mono (by assumption) (by first | omega | (simp; done) | (simp; omega))))), by simp⟩
    rw [show V / 18446744073709551616 = hi by omega, show V % 18446744073709551616 = lo by omega]
    exact World.alloc_heap_new w _
  have HST := hide hst
  clear hst hV hil hiu lol lou
  go_enter Try.func30, Try.ntmps30
  go_wp2_with fail
  go_loopw [3] (fun o wr => Tex w V o wr) (fun _ wr => boxNat wr w.heap.size)
  case atStart => exact HST.out
  case round =>
    obtain ⟨pre, f, A, rfl, a0, a1, a2, hd, hbx, hB, hz⟩ := hrel
    obtain ⟨q0, q1, g0, g1⟩ := two_cells hbx
    have C := fun W => rtenth_any (A / 18446744073709551616) (A % 18446744073709551616) W (by omega) (by omega) (by omega) (by omega)
    rw [show A / 18446744073709551616 * 18446744073709551616 + A % 18446744073709551616 = A by omega] at C
    have HC := hide C
    have HBX := hide hbx
    rw [digs_more] at hd
    have HD := hide hd
    have hp : (10 : Int) ^ (f + 1) = 10 ^ f * 10 := Int.pow_succ _ _
    have HP := hide hp
    obtain ⟨d, hde⟩ : ∃ d, d = A % 10 := ⟨_, rfl⟩
    have hlen : pre.length ≤ 39 := by
      have := congrArg List.length hd
      simp at this
      have := digs_len 39 V
      omega
    have hsz : (strOfNums pre.reverse).size ≤ 39 := by rw [str_size]; simpa using hlen
    have d0 : 0 ≤ d := by omega
    have d1 : d ≤ 9 := by omega
    have hcat := str_cons (48 + d) pre.reverse
    clear C hbx hd hp hlen
    obtain ⟨o, ho⟩ : ∃ o, o = strOfNums pre.reverse := ⟨_, rfl⟩
    rw [← ho] at hsz hcat ⊢
    have HO := hide ho
    have HDE := hide hde
    rw [← hde] at HC HD
    clear hde ho
    go_wp2_with fail
    refine (HC.out _).mono ?_
    rintro e w1 ⟨rfl, hb⟩
    have hbx1 := (hb.block w.heap.size hz).trans HBX.out
    have hB1 := hB.trans (hb.mono hB.size)
    have hz1 : w.heap.size < w1.heap.size := by have := hb.size; omega
    obtain ⟨q2, q3, g2, g3⟩ := two_cells hbx1
    have HBX1 := hide hbx1
    clear hbx1 hb q0 q1 g0 g1
    obtain ⟨x, hx⟩ : ∃ x, x = A / 10 / 18446744073709551616 := ⟨_, rfl⟩
    obtain ⟨y, hy⟩ : ∃ y, y = A / 10 % 18446744073709551616 := ⟨_, rfl⟩
    rw [← hx, ← hy]
    have HXE := hide hx
    have HYE := hide hy
    obtain ⟨ch, hch⟩ : ∃ ch, ch = strOfNums [48 + d] := ⟨_, rfl⟩
    have hchs : ch.size ≤ 1 := by rw [hch, str_size]; simp
    rw [← hch] at hcat
    have hcv : (convert 69 9 (.slice (some ⟨w1.heap.size + 1, 0, none⟩) 1 1)).run Try.prog ((w1.alloc (.cells #[.int .u64 x, .int .u64 y] 24)).alloc (.cells #[.int .u8 (48 + d)] 5)) = .ok (.string ch) ((w1.alloc (.cells #[.int .u64 x, .int .u64 y] 24)).alloc (.cells #[.int .u8 (48 + d)] 5)) := by
      rw [hch]
      refine run_convert_bytes_arg _ 69 5 Try.underlying69 Try.underlying5 (w1.heap.size + 1) 0 1 1 [48 + d] rfl ?_ 9 Try.underlying9
      intro i hi
      obtain rfl : i = 0 := by omega
      simp [go_sem]
    clear hch
    by_cases hA : A / 10 = 0
    · obtain rfl : x = 0 := by omega
      obtain rfl : y = 0 := by omega
      have hfin : strOfNums ((48 + d) :: pre.reverse) = textOf V := by
        have := HD.out
        rw [hA, more_zero] at this
        unfold textOf
        rw [← this]
        simp
      have HF := hide hfin
      have HCAT := hide hcat
      clear hA hx hy hcat
      go_wp2
      go_ret
      exact ⟨by rw [← HF.out, ← HCAT.out]; rfl, (by repeat (first | assumption | exact Below.refl _ _ | refine Below.setCell ?_ (by first | omega | (simp; done) | (simp; omega)) _ | refine below_drewN ?_ _ | refine Below.drew ?_ | refine Below.alloc ?_ (by first | omega | (simp; done) | (simp; omega)) _ | refine Below.trans ?_ (Below.mono (by assumption) (by first | omega | (simp; done) | (simp; omega)))))⟩
    · obtain ⟨g, rfl⟩ : ∃ g, f = g + 1 := by
        cases f with
        | zero => exact absurd a2 (by simp; omega)
        | succ g => exact ⟨g, rfl⟩
      have hd2 : (pre ++ [48 + d]) ++ digs (g + 1) (A / 10) = digs 39 V := by
        have := HD.out
        rw [more_succ g (A / 10) hA, ← digs_more] at this
        · simpa using this
      have hpw : A / 10 < 10 ^ (g + 1) := by rw [HP.out] at a2; omega
      have hxy : (x == 0 && y == 0) = false := by
        rw [Bool.and_eq_false_iff]
        by_cases hx0 : x = 0
        · right; simp; omega
        · left; simpa using hx0
      have HD2 := hide hd2
      have HPW := hide hpw
      have HCAT := hide hcat
      have HAA := hide hA
      clear hcat hx hy hd2 hpw hA
      by_cases hx0 : x = 0
      · subst hx0
        have hy0 : ¬ y = 0 := by intro h; rw [h] at hxy; cases hxy
        clear hxy
        go_wp2
        go_roundw
        case rel =>
          refine ⟨pre ++ [48 + d], g, A / 10, ?_, by omega, by omega, HPW.out, HD2.out, ?_, ?_, ?_⟩
          · rw [HCAT.out, List.reverse_append]; rfl
          · rw [Below.heap_alloc _ _ _ (by simp; omega), Below.heap_alloc _ _ _ (by simp; omega), ← HXE.out, ← HYE.out]
            exact two_put _ _ HBX1.out
          · exact (((hB1.setCell (p := ⟨w.heap.size, 0, none⟩) (Nat.le_refl _) _).setCell (p := ⟨w.heap.size, 1, none⟩) (Nat.le_refl _) _).alloc (by simp; omega) _).alloc (by simp; omega) _
          · simp; omega
        case measure =>
          rw [boxNat_of HBX.out]
          have hh : ∀ W : World, W.heap[w.heap.size]? = some (.cells #[.int .u64 0, .int .u64 y] 24 (0, 0)) → boxNat W w.heap.size = (0 * 18446744073709551616 + y).toNat := fun W h => boxNat_of h
          rw [hh _ (by rw [Below.heap_alloc _ _ _ (by simp; omega), Below.heap_alloc _ _ _ (by simp; omega)]; exact two_put _ _ HBX1.out)]
          have a := HXE.out
          have b := HYE.out
          have c := HAA.out
          omega
      · clear hxy
        go_wp2
        go_roundw
        case rel =>
          refine ⟨pre ++ [48 + d], g, A / 10, ?_, by omega, by omega, HPW.out, HD2.out, ?_, ?_, ?_⟩
          · rw [HCAT.out, List.reverse_append]; rfl
          · rw [Below.heap_alloc _ _ _ (by simp; omega), Below.heap_alloc _ _ _ (by simp; omega), ← HXE.out, ← HYE.out]
            exact two_put _ _ HBX1.out
          · exact (((hB1.setCell (p := ⟨w.heap.size, 0, none⟩) (Nat.le_refl _) _).setCell (p := ⟨w.heap.size, 1, none⟩) (Nat.le_refl _) _).alloc (by simp; omega) _).alloc (by simp; omega) _
          · simp; omega
        case measure =>
          rw [boxNat_of HBX.out]
          have hh : ∀ W : World, W.heap[w.heap.size]? = some (.cells #[.int .u64 x, .int .u64 y] 24 (0, 0)) → boxNat W w.heap.size = (x * 18446744073709551616 + y).toNat := fun W h => boxNat_of h
          rw [hh _ (by rw [Below.heap_alloc _ _ _ (by simp; omega), Below.heap_alloc _ _ _ (by simp; omega)]; exact two_put _ _ HBX1.out)]
          have a := HXE.out
          have b := HYE.out
          have c := HAA.out
          omega
end WideY
end Go.Proofs.Ytefbgienbgcchaa
