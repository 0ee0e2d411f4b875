/-
  Digits of base 16: which text a number has, and which number a text is. (Pure arithmetic.)
-/
import Derived.Laws.BytesArg
import Derived.Lib.Bytealg
namespace Go.Proofs.YtfmegeibnjmfpaaDoor
namespace HexM
open Go

/-- The digits. -/
def dig16 : List UInt8 := [48, 49, 50, 51, 52, 53, 54, 55, 56, 57, 97, 98, 99, 100, 101, 102]
def digS : ByteArray := ⟨#[48, 49, 50, 51, 52, 53, 54, 55, 56, 57, 97, 98, 99, 100, 101, 102]⟩
/-- A digit, as a number. -/
def hexd (d : Nat) : Int := if d < 10 then 48 + d else 87 + d
/-- The k lowest digits of n, the lowest one first. -/
def hexs : Nat → Nat → List Int
  | 0, _ => []
  | k + 1, n => hexd (n % 16) :: hexs k (n / 16)
theorem hexs_len : ∀ (k n : Nat), (hexs k n).length = k
  | 0, _ => rfl
  | k + 1, n => by simp [hexs, hexs_len k]
theorem hexs_snoc : ∀ (k n : Nat), hexs (k + 1) n = hexs k n ++ [hexd (n / 16 ^ k % 16)]
  | 0, n => by simp [hexs]
  | k + 1, n => by
    rw [hexs, hexs_snoc k (n / 16), hexs, List.cons_append, Nat.div_div_eq_div_mul, Nat.pow_succ, Nat.mul_comm]
/-- The text of a number, 16 digits. -/
def hexText (n : Nat) : ByteArray := strOfNums (hexs 16 n).reverse
theorem str_cons (c : Int) (l : List Int) : (⟨#[UInt8.ofNat c.toNat]⟩ : ByteArray) ++ strOfNums l = strOfNums (c :: l) := by
  unfold strOfNums
  apply ByteArray.ext
  simp

/-- Which digit a byte is; 16 if none. -/
def dN (c : UInt8) : Nat := dig16.findIdx (· == c)
theorem dN_le (c : UInt8) : dN c ≤ 16 := by
  unfold dN
  exact List.findIdx_le_length
theorem forall_byte {p : UInt8 → Prop} (h : ∀ n : Nat, n < 256 → p (UInt8.ofNat n)) (c : UInt8) : p c := by
  have := h c.toNat c.toNat_lt
  rwa [UInt8.ofNat_toNat] at this
theorem index_dN (c : UInt8) : Lib.indexByte dig16 c = if dN c < 16 then (dN c : Int) else -1 :=
  forall_byte (p := fun c => Lib.indexByte dig16 c = if dN c < 16 then (dN c : Int) else -1) (by decide +kernel) c
theorem hexd_dN (c : UInt8) (h : dN c < 16) : hexd (dN c) = (c.toNat : Int) :=
  forall_byte (p := fun c => dN c < 16 → hexd (dN c) = (c.toNat : Int)) (by decide +kernel) c h
theorem dN_hexd : ∀ d : Nat, d < 16 → dN (UInt8.ofNat (hexd d).toNat) = d ∧ 0 ≤ hexd d ∧ hexd d < 256 := by decide +kernel
/-- A digit that stands before. -/
theorem dN_before (c : UInt8) : ∀ d : Nat, d < 16 → d < dN c → hexd d ≠ (c.toNat : Int) :=
  forall_byte (p := fun c => ∀ d : Nat, d < 16 → d < dN c → hexd d ≠ (c.toNat : Int)) (by decide +kernel) c
theorem hexd_ne (c : UInt8) (d : Nat) (h : d < 16) (k : d ≤ dN c) : (hexd d = (c.toNat : Int) ↔ d = dN c) := by
  constructor
  · intro e
    rcases Nat.lt_or_ge d (dN c) with l | l
    · exact absurd e (dN_before c d h l)
    · omega
  · intro e
    rw [e] at h ⊢
    exact hexd_dN c h

/-- The number of a text, behind what has been read. -/
def rd : List UInt8 → Nat → Option Nat
  | [], acc => some acc
  | c :: l, acc => if dN c < 16 then rd l (acc * 16 + dN c) else none

theorem rd_lt : ∀ (l : List UInt8) (acc n k : Nat), rd l acc = some n → acc < 16 ^ k → n < 16 ^ (k + l.length)
  | [], acc, n, k, h, hk => by simp [rd] at h; subst h; simpa using hk
  | c :: l, acc, n, k, h, hk => by
    unfold rd at h
    split at h
    · have := rd_lt l _ n (k + 1) h (by rw [Nat.pow_succ]; omega)
      rw [List.length_cons, show k + (l.length + 1) = k + 1 + l.length by omega]
      exact this
    · cases h

theorem rd_append : ∀ (l m : List UInt8) (acc n : Nat), rd l acc = some n → rd (l ++ m) acc = rd m n
  | [], m, acc, n, h => by simp [rd] at h; subst h; rfl
  | c :: l, m, acc, n, h => by
    rw [List.cons_append, rd]
    rw [rd] at h
    split at h
    · rename_i hc; rw [if_pos hc]; exact rd_append l m _ n h
    · cases h

/-- What is told as text is read as it was. -/
theorem rd_hexs : ∀ (k n acc : Nat), n < 16 ^ k → rd ((hexs k n).reverse.map fun c => UInt8.ofNat c.toNat) acc = some (acc * 16 ^ k + n)
  | 0, n, acc, h => by simp at h; subst h; simp [rd, hexs]
  | k + 1, n, acc, h => by
    rw [Nat.pow_succ] at h
    have ih := rd_hexs k (n / 16) acc (by omega)
    rw [hexs, List.reverse_cons, List.map_append, rd_append _ _ _ _ ih]
    obtain ⟨d1, _, _⟩ := dN_hexd (n % 16) (by omega)
    simp only [List.map_cons, List.map_nil, rd]
    rw [d1, if_pos (by omega), Nat.pow_succ, Nat.add_mul, Nat.mul_assoc]
    congr 1
    omega

theorem list_str (l : List Int) : (strOfNums l).data.toList = l.map fun n => UInt8.ofNat n.toNat := by
  unfold strOfNums; simp

theorem rd_text (n : Nat) (h : n < 18446744073709551616) : rd (hexText n).data.toList 0 = some n := by
  unfold hexText
  rw [list_str, rd_hexs 16 n 0 (by have : (16 : Nat) ^ 16 = 18446744073709551616 := by decide
                                   omega)]
  simp
theorem text_size (n : Nat) : (hexText n).size = 16 := by
  unfold hexText strOfNums
  simp [ByteArray.size, hexs_len]

/-- The digits of a text. -/
theorem hexs_rd : ∀ (l : List UInt8) (acc n : Nat), rd l acc = some n → ((hexs l.length n).reverse.map fun c => UInt8.ofNat c.toNat) = l ∧ n / 16 ^ l.length = acc
  | [], acc, n, h => by simp [rd] at h; subst h; simp [hexs]
  | c :: l, acc, n, h => by
    unfold rd at h
    split at h
    · rename_i hc
      obtain ⟨h1, h2⟩ := hexs_rd l _ n h
      have e : n / 16 ^ (l.length + 1) = acc := by
        rw [Nat.pow_succ, ← Nat.div_div_eq_div_mul, h2]; omega
      refine ⟨?_, e⟩
      rw [List.length_cons, hexs_snoc, List.reverse_append, List.map_append, h1, h2]
      have e2 : (acc * 16 + dN c) % 16 = dN c := by omega
      rw [e2, hexd_dN c hc]
      simp
    · cases h

/-- No other text is read as that number. -/
theorem text_rd (s : ByteArray) (n : Nat) (hs : s.size = 16) (h : rd s.data.toList 0 = some n) : hexText n = s := by
  obtain ⟨h1, _⟩ := hexs_rd _ _ _ h
  have hl : s.data.toList.length = 16 := by rw [Array.length_toList]; exact hs
  rw [hl] at h1
  apply ByteArray.ext
  apply Array.toList_inj.1
  unfold hexText
  rw [list_str, h1]
end HexM
end Go.Proofs.YtfmegeibnjmfpaaDoor
