/-
  Text, of package pace and of the document's answer: the form as 16 digits.
-/
import Derived.Test.YtoamiedaeofcaaaPaceA
import Derived.Test.YtoamiedaeofcaaaHexM
import Derived.Laws.BytesArg
import Derived.OneCell
import Derived.RangeFuncBound
namespace Go.Proofs.Ytoamiedaeofcaaa
namespace PaceD
open Go.RowKit Go.Shelf
open FltR FltC PaceA HexM

/-- The text's room when some digits have come. -/
def row (m : Nat) (pre : List Int) : List Value := List.replicate m (Value.int .u8 0) ++ pre.reverse.map (Value.int .u8)
theorem row_set (m : Nat) (pre : List Int) (x : Int) : (row (m + 1) pre).set m (.int .u8 x) = row m (pre ++ [x]) := by
  unfold row
  rw [List.replicate_succ', List.append_assoc, List.set_append_right _ _ (by simp)]
  simp
theorem and15 (a : Nat) (ha : a < 18446744073709551616) : bits .and .u64 (a : Int) 15 = ((a % 16 : Nat) : Int) := by
  have h := bits_and_u64_nat a 15 ha (by omega)
  have e : a &&& 15 = a % 16 := Nat.and_two_pow_sub_one_eq_mod a 4
  rw [e] at h
  exact h
theorem idx (w : World) : ∀ d : Nat, d < 16 → (Instr.index 9 (.string ⟨#[48, 49, 50, 51, 52, 53, 54, 55, 56, 57, 97, 98, 99, 100, 101, 102]⟩) (.int .u64 (d : Int))).run Try.prog w = .ok (.int .u8 (hexd d)) w
  | 0, _ | 1, _ | 2, _ | 3, _ | 4, _ | 5, _ | 6, _ | 7, _ | 8, _ | 9, _ | 10, _ | 11, _ | 12, _ | 13, _ | 14, _ | 15, _ => by kernel_rfl
  | n + 16, h => absurd h (by omega)
theorem idx_i (w : World) : ∀ d : Nat, d < 16 → (Instr.index 9 (.string ⟨#[48, 49, 50, 51, 52, 53, 54, 55, 56, 57, 97, 98, 99, 100, 101, 102]⟩) (.int .i64 (d : Int))).run Try.prog w = .ok (.int .u8 (hexd d)) w
  | 0, _ | 1, _ | 2, _ | 3, _ | 4, _ | 5, _ | 6, _ | 7, _ | 8, _ | 9, _ | 10, _ | 11, _ | 12, _ | 13, _ | 14, _ | 15, _ => by kernel_rfl
  | n + 16, h => absurd h (by omega)
theorem slc (w : World) : ∀ d : Nat, d < 16 → (Instr.sliceAt 9 (.string ⟨#[48, 49, 50, 51, 52, 53, 54, 55, 56, 57, 97, 98, 99, 100, 101, 102]⟩) (some (.int .u64 (d : Int))) (some (.int .u64 ((d : Int) + 1))) none).run Try.prog w = .ok (.string ⟨#[UInt8.ofNat (hexd d).toNat]⟩) w
  | 0, _ | 1, _ | 2, _ | 3, _ | 4, _ | 5, _ | 6, _ | 7, _ | 8, _ | 9, _ | 10, _ | 11, _ | 12, _ | 13, _ | 14, _ | 15, _ => by kernel_rfl
  | n + 16, h => absurd h (by omega)

theorem digS_get : ∀ (d : Nat) (h : d < (⟨#[48, 49, 50, 51, 52, 53, 54, 55, 56, 57, 97, 98, 99, 100, 101, 102]⟩ : ByteArray).size), (((⟨#[48, 49, 50, 51, 52, 53, 54, 55, 56, 57, 97, 98, 99, 100, 101, 102]⟩ : ByteArray)[d]'h).toNat : Int) = hexd d
  | 0, _ | 1, _ | 2, _ | 3, _ | 4, _ | 5, _ | 6, _ | 7, _ | 8, _ | 9, _ | 10, _ | 11, _ | 12, _ | 13, _ | 14, _ | 15, _ => by kernel_rfl
  | n + 16, h => absurd h (by show ¬ n + 16 < 16; omega)

set_option maxHeartbeats 400000 in
theorem digits_any (w : World) : Calls Try.prog 45 #[] w fun e w' => e = .returned (.string ⟨#[48, 49, 50, 51, 52, 53, 54, 55, 56, 57, 97, 98, 99, 100, 101, 102]⟩) ∧ w = w' := by
  go_enter Try.func45, Try.ntmps45
  go_wp2
  go_ret
  exact ⟨rfl, rfl⟩

theorem pow_div (N k : Nat) : N / 16 ^ (k + 1) = N / 16 ^ k / 16 := by rw [Nat.pow_succ, Nat.div_div_eq_div_mul]

/-- What stands between two rounds of Text's loop. -/
def Mid (w : World) (N : Nat) (b i : Value) (U : World) : Prop :=
  ∃ k : Nat, k ≤ 16 ∧ i = .int .i64 (k : Int) ∧ b = .int .u64 ((N / 16 ^ k : Nat) : Int) ∧ U.heap[w.heap.size]? = some (.cells (row (16 - k) (hexs k N)).toArray 61 (0, 0)) ∧ Below w.heap.size w U

set_option maxHeartbeats 1000000 in
/-- pace.Text. -/
theorem text_any (x : Nat) (w : World) (hx : x < 18446744073709551616) :
    Calls Try.prog 19 #[.float .f64 x] w fun e w' => e = .returned (.string (hexText (canon x))) ∧ Below w.heap.size w w' := by
  have C := hide (fun W => bits_any x W)
  have hN := canon_lt hx
  generalize canon x = N at *
  clear hx
  go_enter Try.func19, Try.ntmps19
  go_wp2_with fail
  refine (C.out _).mono ?_
  rintro e w1 ⟨rfl, rfl⟩
  have hst : Mid w N (.int .u64 (N : Int)) (.int .i64 0) (w.alloc (.cells (row 16 []).toArray 61)) := by
    refine ⟨0, by omega, rfl, by simp, ?_, (by repeat (first | assumption | exact Below.refl _ _ | refine Below.setCell ?_ (by first | omega | (simp; done) | (simp; omega)) _ | refine below_drewN ?_ _ | refine Below.drew ?_ | refine Below.alloc ?_ (by first | omega | (simp; done) | (simp; omega)) _ | refine Below.trans ?_ (Below.mono (by assumption) (by first | omega | (simp; done) | (simp; omega)))))⟩
    have := World.alloc_heap_new w (.cells (row 16 []).toArray 61)
    exact this
  have HST := hide hst
  clear hst
  go_wp2_with fail
  go_loopw [4, 8] (fun b i wr => Mid w N b i wr) (fun _ i _ => 16 - (intOf i).toNat)
  case atStart => exact HST.out
  case round =>
    obtain ⟨k, hk, rfl, rfl, hrow, hB⟩ := hrel
    by_cases hlt : k < 16
    · obtain ⟨j, hj⟩ : ∃ j, 16 - k = j + 1 := ⟨15 - k, by omega⟩
      obtain ⟨a, ha⟩ : ∃ a, a = N / 16 ^ k := ⟨_, rfl⟩
      have ha2 : a < 18446744073709551616 := by rw [ha]; exact Nat.lt_of_le_of_lt (Nat.div_le_self _ _) hN
      have ha3 : ((N / 16 ^ (k + 1) : Nat) : Int) = (a : Int) / 16 := by rw [pow_div, ← ha]; rfl
      have hs := hexs_snoc k N
      rw [← ha] at hs
      rw [hj] at hrow
      have hrow2 := hrow
      rw [← ha]
      have e15 : (15 : Int) - (k : Int) = (j : Int) := by omega
      have m15 := and15 a ha2
      have hi := fun W => idx W (a % 16) (by omega)
      have c1 : wr.cell? ⟨w.heap.size, j, none⟩ = some (.int .u8 0) := by simp [World.cell?, hrow, row, List.getElem?_append]
      have f1 : wr.frozen? ⟨w.heap.size, j, none⟩ = false := by simp [World.frozen?, hrow]
      have hj16 : j < 16 := by omega
      have H1 := hide hrow2
      have H2 := hide hs
      have H3 := hide ha3
      have H4 := hide hj
      have H5 := hide ha
      clear hrow hrow2 hs ha3 hj ha hN
      go_wp2
      go_roundw
      case rel =>
        have e1 : 16 - (k + 1) = j := by have := H4.out; omega
        refine ⟨k + 1, by omega, by go_num, by rw [H3.out], ?_, hB.setCell (p := ⟨w.heap.size, j, none⟩) (by simp) _⟩
        rw [heap_setCell_same _ _ _ _ _ _ H1.out, List.setIfInBounds_toArray, row_set, H2.out, e1]
        simp only [digS_get]
      case measure => simp [intOf]; omega
    · obtain rfl : k = 16 := by omega
      have hsl : ∀ Y : World, (Instr.sliceAt 61 (.pointer (some ⟨w.heap.size, 0, none⟩)) none none none).run Try.prog Y = .ok (.slice (some ⟨w.heap.size, 0, none⟩) 16 16) Y := by
        intro Y
        kernel_rfl
      have hcv : (convert 62 9 (.slice (some ⟨w.heap.size, 0, none⟩) 16 16)).run Try.prog wr = .ok (.string (hexText N)) wr := by
        refine run_convert_bytes_arg wr 62 5 Try.underlying62 Try.underlying5 w.heap.size 0 16 16 (hexs 16 N).reverse (by rw [List.length_reverse, hexs_len]) ?_ 9 Try.underlying9
        intro i hi
        have hl : i < (hexs 16 N).reverse.length := by rw [List.length_reverse, hexs_len]; exact hi
        have : (row (16 - 16) (hexs 16 N))[0 + i]? = some (.int .u8 ((hexs 16 N).reverse.getD i 0)) := by
          unfold row
          rw [Nat.zero_add]
          simp only [Nat.sub_self, List.replicate_zero, List.nil_append, List.getElem?_map, List.getElem?_eq_getElem hl, Option.map_some, List.getD, Option.getD_some]
        simpa [World.cell?, hrow] using this
      have H1 := hide hrow
      clear hrow
      go_wp2
      go_ret
      exact ⟨rfl, hB⟩

set_option maxHeartbeats 1000000 in
/-- The document's Text. -/
theorem rtext_any (x : Nat) (w : World) (hx : x < 18446744073709551616) :
    Calls Try.prog 20 #[.float .f64 x] w fun e w' => e = .returned (.string (hexText (canon x))) ∧ w = w' := by
  have C := hide (fun W => rbits_any x W)
  have hN := canon_lt hx
  generalize canon x = N at *
  clear hx
  go_enter Try.func20, Try.ntmps20
  go_wp2_with fail
  refine (C.out _).mono ?_
  rintro e w1 ⟨rfl, rfl⟩
  go_wp2_with fail
  go_loop [3, 4, 5] (fun o b i => ∃ k : Nat, k ≤ 16 ∧ i = .int .i64 (k : Int) ∧ b = .int .u64 ((N / 16 ^ k : Nat) : Int) ∧ o = .string (strOfNums (hexs k N).reverse)) (fun _ _ i => 16 - (intOf i).toNat)
  case atStart => exact ⟨0, by omega, rfl, by simp, rfl⟩
  case round =>
    obtain ⟨k, hk, rfl, rfl, rfl⟩ := hrel
    by_cases hlt : k < 16
    · obtain ⟨a, ha⟩ : ∃ a, a = N / 16 ^ k := ⟨_, rfl⟩
      have ha2 : a < 18446744073709551616 := by rw [ha]; exact Nat.lt_of_le_of_lt (Nat.div_le_self _ _) hN
      have ha3 : ((N / 16 ^ (k + 1) : Nat) : Int) = (a : Int) / 16 := by rw [pow_div, ← ha]; rfl
      have hs := hexs_snoc k N
      rw [← ha] at hs
      rw [← ha]
      have m15 := and15 a ha2
      have hd : a % 16 < 16 := by omega
      have hw : IntKind.u64.wrap (((a % 16 : Nat) : Int) + 1) = ((a % 16 : Nat) : Int) + 1 := by rw [IntKind.wrap_u64]; omega
      obtain ⟨d, hd2⟩ : ∃ d, d = a % 16 := ⟨_, rfl⟩
      rw [← hd2] at m15 hd hs hw
      have hi := fun W => slc W d hd
      obtain ⟨o, ho⟩ : ∃ o, o = strOfNums (hexs k N).reverse := ⟨_, rfl⟩
      have hcat : (⟨#[UInt8.ofNat (hexd d).toNat]⟩ : ByteArray) ++ o = strOfNums (hexs (k + 1) N).reverse := by
        rw [ho, str_cons, hs, List.reverse_append]; rfl
      have ho2 : o.size ≤ 16 := by rw [ho]; unfold strOfNums; simp [ByteArray.size, hexs_len]; omega
      rw [← ho]
      have H2 := hide hcat
      have H3 := hide ha3
      clear hs ha3 ha hN hcat ho hd2
      go_wp2_with (go_at_call 45; refine (digits_any _).mono ?_; rintro e w1 ⟨rfl, rfl⟩)
      go_round
      case rel => exact ⟨k + 1, by omega, by go_num, by rw [H3.out], by rw [← H2.out]⟩
      case measure => simp [intOf]; omega
    · obtain rfl : k = 16 := by omega
      go_wp2
      go_ret
      exact ⟨rfl, rfl⟩
end PaceD
end Go.Proofs.Ytoamiedaeofcaaa
