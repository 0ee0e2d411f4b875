/-
  The program's writer: a number's form, and the calls that write.
-/
import Derived.Test.YtplinpbmncccoaaWirC
import Derived.Shelf.Strconv.Itoa0
namespace Go.Proofs.Ytplinpbmncccoaa
namespace WirD
open Go.RowKit
open BlkM WirM WirS WirA WirB WirC

/-! ### math/bits.Len64 (the shelf's contract) -/
def lays_ren : Go.Shelf.Ren := ⟨fun | 129 => 197 | n => n, fun | 53 => 37 | 3 => 3 | 4 => 4 | 46 => 203 | 5 => 5 | 9 => 9 | n => n, fun | n => n⟩
theorem lays129 : Go.Proofs.Lays.n129 Try.prog lays_ren := {
  mixed := by kernel_rfl
  f129 := Try.func197.trans (congrArg some (by kernel_rfl))
  t3 := Try.underlying3
  a3 := Try.isAgg3
  z3 := Try.sizeOf3
  v3 := Try.zeroValue3
  t4 := Try.underlying4
  a4 := Try.isAgg4
  z4 := Try.sizeOf4
  v4 := Try.zeroValue4
  t5 := Try.underlying5
  a5 := Try.isAgg5
  z5 := Try.sizeOf5
  v5 := Try.zeroValue5
  t9 := Try.underlying9
  a9 := Try.isAgg9
  z9 := Try.sizeOf9
  v9 := Try.zeroValue9
  t46 := Try.underlying203
  a46 := Try.isAgg203
  z46 := Try.sizeOf203
  v46 := Try.zeroValue203
  t53 := Try.underlying37
  a53 := Try.isAgg37
  z53 := Try.sizeOf37
  v53 := Try.zeroValue37 }
theorem len64 (x : Int) (w : World) (h0 : 0 ≤ x) (h1 : x ≤ 18446744073709551615) :
    Calls Try.prog 197 #[.int .u64 x] w fun e w' => e = .returned (.int .i64 (Lib.bitLen x.toNat)) ∧ w = w' := (Go.Proofs.Any.bits_Len64 lays129 x w h0 h1).mono fun _ _ ⟨h, k⟩ => ⟨h, k.symm⟩

/-- How many bytes a number's digits are. -/
def nb (n : Int) : Nat := (Lib.bitLen n.toNat + 7) / 8
theorem nb_le (n : Int) (h1 : n < 18446744073709551616) : nb n ≤ 8 := by
  have := Lib.bitLen_le n.toNat 64 (Nat.le_refl _) (by omega)
  unfold nb
  omega
/-- The form of a number. -/
def numB (n : Int) : List Int := (cp n (nb n) (nb n)).take (nb n + 1)
theorem numB_len (n : Int) (h1 : n < 18446744073709551616) : (numB n).length = nb n + 1 := by
  have := nb_le n h1
  simp [numB, cp_len]
  omega
theorem al9 (a : Operand → Value) (o : Oper) (ho : o.op = Op.alloc 196) (W : World) : (execOp a o).run Try.prog W = .ok (.value (.pointer (some ⟨W.heap.size, 0, none⟩))) (W.alloc (.cells (b8 z9).toArray 196)) := by
  unfold execOp
  rw [ho]
  kernel_rfl
theorem sl9 (D m : Nat) (hm : m ≤ 9) (Y : World) : (Instr.sliceAt 196 (.pointer (some ⟨D, 0, none⟩)) none (some (.int .i64 (m : Int))) none).run Try.prog Y = .ok (.slice (some ⟨D, 0, none⟩) m 9) Y := by
  have ha : Try.prog.arrayLen 196 = 9 := by kernel_rfl
  rw [run_sliceAt_array_h Y 196 ⟨D, 0, none⟩ (by kernel_rfl) .i64 (m : Int) (by omega) (by rw [ha]; omega), ha]
  have hs : (sizeOf (Try.prog.elem 196)).run Try.prog Y = .ok 1 Y := by kernel_rfl
  rw [hs]
  simp [slicedAt, Addr.add_lit]
theorem cvU {n : Int} (a : Operand → Value) (o : Oper) (x : Operand) (ho : o.op = Op.convert 3 37 x) (hx : a x = .int .i64 n) (h0 : 0 ≤ n) (h1 : n < 9223372036854775808) (W : World) : (execOp a o).run Try.prog W = .ok (.value (.int .u64 n)) W := by
  have hw : IntKind.u64.wrap n = n := by simp [IntKind.wrap, IntKind.bits, IntKind.signed]; omega
  unfold execOp
  rw [ho]
  simp only [hx]
  simp [convert, Conv.intToInt, run_underlying Try.underlying3, run_underlying Try.underlying37, hw]
set_option maxHeartbeats 1000000 in
theorem number_any (w : World) (n : Int) (h0 : 0 ≤ n) (h1 : n < 9223372036854775808) :
    Calls Try.prog 149 #[.int .i64 n] w fun e w' => ∃ F, e = .returned (.slice (some ⟨F, 0, none⟩) (nb n + 1) 9) ∧ w.heap.size ≤ F ∧ BIn w' (.slice (some ⟨F, 0, none⟩) (nb n + 1) 9) (numB n) ∧ Below w.heap.size w w' := by
  have hk := nb_le n (by omega)
  obtain ⟨k, hkk⟩ : ∃ k, k = nb n := ⟨_, rfl⟩
  obtain ⟨L, hL⟩ : ∃ L, L = Lib.bitLen n.toNat := ⟨_, rfl⟩
  have hL64 : L ≤ 64 := by rw [hL]; exact Lib.bitLen_le n.toNat 64 (Nat.le_refl _) (by omega)
  have hq : ((L : Int) + 7) / 8 = (k : Int) := by rw [hkk]; unfold nb; rw [← hL]; omega
  have C1 := hide (len64 n w h0 (by omega))
  rw [← hL] at C1
  have C2 := hide (counted_any w n k (by rw [hkk]; exact hk) h0 (by omega))
  rw [← hkk] at hk
  have hs9 := sl9
  have HK := hide hkk
  clear hkk hL
  go_enter Try.func149, Try.ntmps149
  go_upto_region 2 with ((go_at_call 197; refine (C1.out).mono ?_; rintro e w1 ⟨rfl, rfl⟩))
  simp only [hq]
  refine wp_region_lit ?_
  refine sV (.int .i64 n) (w) (by kernel_rfl) (by kernel_rfl) ?_
  simp only [Act.put, List.setIfInBounds_toArray, List.set_cons_succ, List.set_cons_zero]
  refine sV (.int .u64 n) w (by kernel_rfl) (cvU _ _ _ (by rfl) (by kernel_rfl) h0 h1 w) ?_
  simp only [Act.put, List.setIfInBounds_toArray, List.set_cons_succ, List.set_cons_zero]
  refine sV (.int .i64 (k : Int)) (w) (by kernel_rfl) (by kernel_rfl) ?_
  simp only [Act.put, List.setIfInBounds_toArray, List.set_cons_succ, List.set_cons_zero]
  refine sC (by kernel_rfl) (by kernel_rfl) C2.out ?_
  rintro w2 hb2
  simp only [Act.put, List.setIfInBounds_toArray, List.set_cons_succ, List.set_cons_zero]
  obtain ⟨F, hF⟩ : ∃ F, F = w2.heap.size := ⟨_, rfl⟩
  refine sV (.pointer (some ⟨w2.heap.size, 0, none⟩)) (w2.alloc (.cells (b8 z9).toArray 196)) (by kernel_rfl) (al9 _ _ rfl w2) ?_
  simp only [Act.put, List.setIfInBounds_toArray, List.set_cons_succ, List.set_cons_zero]
  refine stepStore (by rfl) _ _ _ (by rfl) _ (b8 (cp n k k)) (by kernel_rfl) (by kernel_rfl) (At.new w2 196 (b8 z9)) 9 (by kernel_rfl) (by rw [b8_len]; rfl) (by rw [b8_len, cp_len]) (all_oneCell_toArray (one_b8 _)) ?_
  obtain ⟨W3, eW⟩ : ∃ X, X = (w2.alloc (.cells (b8 z9).toArray 196)).setRow w2.heap.size (b8 (cp n k k)).toArray := ⟨_, rfl⟩
  have hA : At W3 F 196 (b8 (cp n k k)) := by rw [eW, hF]; exact (At.new w2 _ (b8 z9)).put _
  have hB : Below w2.heap.size w2 W3 := by rw [eW]; exact Below.setRowOwn (Below.alloc (Below.refl _ _) (Nat.le_refl _) _) (Nat.le_refl _) _
  rw [← eW, ← hF]
  have HA := hide hA
  have HB := hide (hb2.trans (hB.mono hb2.size))
  have HF := hide (show w.heap.size ≤ F by rw [hF]; exact hb2.size)
  have e1 : (1 : Int) + (k : Int) = (k : Int) + 1 := by omega
  have hs : ∀ Y, (Instr.sliceAt 196 (.pointer (some ⟨F, 0, none⟩)) none (some (.int .i64 ((k : Int) + 1))) none).run Try.prog Y = .ok (.slice (some ⟨F, 0, none⟩) (k + 1) 9) Y := fun Y => by simpa using hs9 F (k + 1) (by omega) Y
  clear eW hA hB hF hb2 hs9 hq C1 C2
  go_wp2_with fail
  go_ret
  rw [HK.out] at HA ⊢
  refine ⟨F, rfl, HF.out, ?_, HB.out⟩
  have hk8 := nb_le n (by omega)
  refine ⟨_, 9, by rw [numB_len n (by omega)], by rw [numB_len n (by omega)]; omega, fun _ => ⟨F, 0, rfl, HA.out.lt, fun i hi => ?_⟩⟩
  rw [HA.out.cell, Nat.zero_add]
  rw [numB_len n (by omega)] at hi
  rw [b8_get _ i (by rw [cp_len]; omega)]
  unfold numB
  simp [List.getD, hi]
end WirD
end Go.Proofs.Ytplinpbmncccoaa
