/-
  What a signature reads as, as a key of a map.
-/
import Derived.Test.YthcemghamdmjmaaSgA
namespace Go.Proofs.Ythcemghamdmjmaa
namespace SgB
open Go.RowKit
open BlkM WirM WirS SgA

local notation "TG" => 213
def kl (x : Sg) : Lit := .string (keyBytes (x.k.map (Lit.int .u8) ++ (x.h.map (Lit.int .u8) ++ [Lit.int .u64 x.s])))
theorem flat_one (l : List Int) : (l.map fun y => [Lit.int .u8 y]).flatten = l.map (Lit.int .u8) := by
  induction l with
  | nil => rfl
  | cons a l ih => simp [ih]
theorem cB : Try.prog.cellsOf 5 = 1 := by kernel_rfl
theorem cK : Try.prog.cellsOf 36 = 4 := by kernel_rfl
theorem cH : Try.prog.cellsOf 34 = 32 := by kernel_rfl
theorem cW : Try.prog.cellsOf 37 = 1 := by kernel_rfl
theorem cG : Try.prog.cellsOf TG = 37 := by kernel_rfl
theorem lits_key (d : Nat) (l : List Int) (h : l.length = 4) (hr : ∀ y ∈ l, 0 ≤ y ∧ y < 256) : Try.prog.keyLits (d + 2) 36 (b8 l) = some (l.map (Lit.int .u8)) := by
  unfold Program.keyLits
  simp only [Try.underlying36]
  rw [if_pos (by rw [b8_len, cK, h]), cB, lits8 d l hr 4 (by omega), List.take_of_length_le (by omega), Option.map_some, flat_one]
theorem lits_hash (d : Nat) (l : List Int) (h : l.length = 32) (hr : ∀ y ∈ l, 0 ≤ y ∧ y < 256) : Try.prog.keyLits (d + 2) 34 (b8 l) = some (l.map (Lit.int .u8)) := by
  unfold Program.keyLits
  simp only [Try.underlying34]
  rw [if_pos (by rw [b8_len, cH, h]), cB, lits8 d l hr 32 (by omega), List.take_of_length_le (by omega), Option.map_some, flat_one]
theorem lits_word (d : Nat) (x : Int) (h : 0 ≤ x ∧ x < 18446744073709551616) : Try.prog.keyLits (d + 1) 37 [.int .u64 x] = some [Lit.int .u64 x] := by
  have hw : (Lit.int .u64 x).wf = true := by
    simp [Lit.wf, IntKind.min, IntKind.max, IntKind.signed, IntKind.bits]
    omega
  unfold Program.keyLits
  simp only [Try.underlying37]
  simp [hw]
theorem parts {x : Sg} (h : x.ok) : (x.cells.drop 0).take 4 = b8 x.k ∧ (x.cells.drop 4).take 32 = b8 x.h ∧ (x.cells.drop 36).take 1 = [.int .u64 x.s] := by
  have h1 : (b8 x.k).length = 4 := by rw [b8_len, h.k4]
  have h2 : (b8 x.h).length = 32 := by rw [b8_len, h.h32]
  unfold Sg.cells
  refine ⟨?_, ?_, ?_⟩
  · rw [List.drop_zero, List.take_left' h1]
  · rw [List.drop_left' h1, List.take_left' h2]
  · rw [← List.append_assoc, List.drop_left' (by rw [List.length_append]; omega)]
    rfl
set_option maxRecDepth 10000 in
theorem key_of {x : Sg} (h : x.ok) : keyOf Try.prog TG x.val = some (kl x) := by
  obtain ⟨p1, p2, p3⟩ := parts h
  have hlen := Sg.len h
  have hkt : Try.prog.keyType TG = true := keyG
  have hf : x.val.formed Try.prog TG = true := by
    unfold Value.formed Sg.val
    simp only [Try.underlying213]
    rw [cG]
    simp [hlen]
  obtain ⟨d, hd⟩ : ∃ d, Try.prog.types.size + 1 = d + 2 + 1 := ⟨Try.prog.types.size - 2, by have := rowG; omega⟩
  unfold keyOf
  simp only [Try.underlying213]
  rw [hkt, hf, hd]
  have hc : x.val.cells.toList = x.cells := rfl
  rw [hc]
  unfold Program.keyLits
  simp only [Try.underlying213]
  rw [cG, if_pos (by simp)]
  simp only [List.mapM_cons, List.mapM_nil, cK, cH, cW, p1, p2, p3, lits_key d x.k h.k4 h.kr, lits_hash d x.h h.h32 h.hr, lits_word (d + 1) x.s h.sr]
  simp [kl, hlen]
end SgB
end Go.Proofs.Ythcemghamdmjmaa
