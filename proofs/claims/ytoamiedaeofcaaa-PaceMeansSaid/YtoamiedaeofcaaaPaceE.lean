/-
  Read, of package pace and of the document's answer: which number 16 digits are.
-/
import Derived.Test.YtoamiedaeofcaaaPaceD
namespace Go.Proofs.Ytoamiedaeofcaaa
namespace PaceE
open Go.RowKit Go.Shelf
open FltR FltC PaceA HexM PaceD

theorem ib3 (c : UInt8) (w : World) : (callFunc 77 #[.string ⟨#[48, 49, 50, 51, 52, 53, 54, 55, 56, 57, 97, 98, 99, 100, 101, 102]⟩, .int .u8 (c.toNat : Int)]).run Try.prog w = .ok (.value (.int .i64 (if dN c < 16 then (dN c : Int) else -1))) w := by
  rw [run_callFunc_extern Try.func77 (by kernel_rfl) (by kernel_rfl) (by kernel_rfl) (e := Extern.BytealgIndexByte.indexByte) (by kernel_rfl), Lib.run_indexByteString]
  have e : ((c.toNat : Int)).toNat.toUInt8 = c := by simp
  rw [e, show (ByteArray.data ⟨#[48, 49, 50, 51, 52, 53, 54, 55, 56, 57, 97, 98, 99, 100, 101, 102]⟩).toList = dig16 from rfl, index_dN]
  rfl
set_option maxHeartbeats 400000 in
theorem ib2 (c : UInt8) (w : World) : Calls Try.prog 67 #[.string ⟨#[48, 49, 50, 51, 52, 53, 54, 55, 56, 57, 97, 98, 99, 100, 101, 102]⟩, .int .u8 (c.toNat : Int)] w fun e w' => e = .returned (.int .i64 (if dN c < 16 then (dN c : Int) else -1)) ∧ w = w' := by
  have H := ib3 c
  generalize (if dN c < 16 then (dN c : Int) else -1) = r at *
  go_enter Try.func67, Try.ntmps67
  go_wp2
  go_ret
  exact ⟨rfl, rfl⟩
set_option maxHeartbeats 400000 in
theorem ib1 (c : UInt8) (w : World) : Calls Try.prog 44 #[.string ⟨#[48, 49, 50, 51, 52, 53, 54, 55, 56, 57, 97, 98, 99, 100, 101, 102]⟩, .int .u8 (c.toNat : Int)] w fun e w' => e = .returned (.int .i64 (if dN c < 16 then (dN c : Int) else -1)) ∧ w = w' := by
  have H := hide (ib2 c)
  generalize (if dN c < 16 then (dN c : Int) else -1) = r at *
  go_enter Try.func44, Try.ntmps44
  go_wp2_with fail
  refine (H.out _).mono ?_
  rintro e w1 ⟨rfl, rfl⟩
  go_wp2
  go_ret
  exact ⟨rfl, rfl⟩
theorem ib_yes (c : UInt8) (d : Nat) (h : dN c = d) (hd : d < 16) (w : World) : Calls Try.prog 44 #[.string ⟨#[48, 49, 50, 51, 52, 53, 54, 55, 56, 57, 97, 98, 99, 100, 101, 102]⟩, .int .u8 (c.toNat : Int)] w fun e w' => e = .returned (.int .i64 (d : Int)) ∧ w = w' := by
  have := ib1 c w
  rw [if_pos (by omega), h] at this
  exact this
theorem ib_no (c : UInt8) (h : ¬ dN c < 16) (w : World) : Calls Try.prog 44 #[.string ⟨#[48, 49, 50, 51, 52, 53, 54, 55, 56, 57, 97, 98, 99, 100, 101, 102]⟩, .int .u8 (c.toNat : Int)] w fun e w' => e = .returned (.int .i64 (-1)) ∧ w = w' := by
  have := ib1 c w
  rw [if_neg h] at this
  exact this

/-- What Of answers. -/
def ofV (n : Nat) : Value := if canon n = n then .tuple #[.float .f64 n, .int .i64 0] else .tuple #[.float .f64 0, .int .i64 5]
/-- What Read answers. -/
def readV (R : Option Nat) : Value := match R with
  | none => .tuple #[.float .f64 0, .int .i64 5]
  | some n => ofV n
theorem pof_any (n : Nat) (w : World) : Calls Try.prog 13 #[.int .u64 (n : Int)] w fun e w' => e = .returned (ofV n) ∧ w = w' := by
  unfold ofV
  by_cases h : canon n = n
  · rw [if_pos h]; exact pof_ok n w h
  · rw [if_neg h]; exact pof_no n w h
theorem rof_any (n : Nat) (w : World) : Calls Try.prog 14 #[.int .u64 (n : Int)] w fun e w' => e = .returned (ofV n) ∧ w = w' := by
  unfold ofV
  by_cases h : canon n = n
  · rw [if_pos h]; exact rof_ok n w h
  · rw [if_neg h]; exact rof_no n w h
theorem ofV_is (n : Nat) : ∃ x e : Nat, ofV n = .tuple #[.float .f64 x, .int .i64 (e : Int)] := by
  unfold ofV
  split
  · exact ⟨n, 0, rfl⟩
  · exact ⟨0, 5, rfl⟩

/-- The text's answer. -/
def rdS (s : ByteArray) : Value := if s.size = 16 then readV (rd s.data.toList 0) else .tuple #[.float .f64 0, .int .i64 5]

theorem drop_cons (s : ByteArray) (k : Nat) (h : k < s.size) : s.data.toList.drop k = s[k] :: s.data.toList.drop (k + 1) := by
  have hl : k < s.data.toList.length := by rw [Array.length_toList]; exact h
  rw [List.drop_eq_getElem_cons hl]
  rfl
theorem or_join (acc d : Nat) (ha : acc * 16 < 18446744073709551616) (hd : d < 16) : bits .or .u64 ((acc : Int) * 16) (d : Int) = ((acc * 16 + d : Nat) : Int) := by
  have h := bits_or_u64_nat (acc * 16) d ha (by omega)
  have e : acc * 16 ||| d = acc * 16 + d := by
    have := Nat.two_pow_add_eq_or_of_lt (i := 4) (b := d) (by omega) acc
    rw [Nat.mul_comm, show (2 : Nat) ^ 4 = 16 from rfl] at this
    exact this.symm
  rw [e] at h
  rw [← h]
  simp

set_option maxHeartbeats 400000 in
theorem read_short (s : ByteArray) (w : World) (hs : s.size ≠ 16) :
    Calls Try.prog 15 #[.string s] w fun e w' => e = .returned (.tuple #[.float .f64 0, .int .i64 5]) ∧ w = w' := by
  have t0 : ((s.size : Int) != 16) = true := by simp; omega
  clear hs
  go_enter Try.func15, Try.ntmps15
  go_wp2
  go_ret2
  exact ⟨rfl, rfl⟩

set_option maxHeartbeats 1000000 in
/-- pace.Read. -/
theorem read_16 (s : ByteArray) (w : World) (hs : s.size = 16) :
    Calls Try.prog 15 #[.string s] w fun e w' => e = .returned (readV (rd s.data.toList 0)) ∧ w = w' := by
  obtain ⟨R, hR⟩ : ∃ R, R = rd s.data.toList 0 := ⟨_, rfl⟩
  rw [← hR]
  have HR := hide hR
  have t0 : ((s.size : Int) != 16) = false := by simp; omega
  have HS := hide hs
  clear hs hR
  go_enter Try.func15, Try.ntmps15
  go_wp2_with fail
  go_loop [4, 10] (fun b i => ∃ k acc : Nat, k ≤ 16 ∧ i = .int .i64 (k : Int) ∧ b = .int .u64 (acc : Int) ∧ acc < 16 ^ k ∧ Hid (rd (s.data.toList.drop k) acc = R)) (fun _ i => 16 - (intOf i).toNat)
  case atStart => exact ⟨0, 0, by omega, rfl, rfl, by simp, HR.out.symm⟩
  case round =>
    obtain ⟨k, acc, hk, rfl, rfl, hacc, hrd⟩ := hrel
    by_cases hlt : k < 16
    · have hks : k < s.size := by have := HS.out; omega
      have hdr := drop_cons s k hks
      have hrd2 := hrd.out
      rw [hdr, rd] at hrd2
      have hp : 16 ^ k ≤ 16 ^ 15 := Nat.pow_le_pow_right (by omega) (by omega)
      have hb : acc * 16 < 18446744073709551616 := by
        have : (16 : Nat) ^ 15 = 1152921504606846976 := by decide
        omega
      have hp2 : acc * 16 < 16 ^ (k + 1) := by rw [Nat.pow_succ]; omega
      by_cases hd : dN s[k] < 16
      · rw [if_pos hd] at hrd2
        obtain ⟨d, hde⟩ : ∃ d, dN s[k] = d := ⟨_, rfl⟩
        have hC := hide (fun W => ib_yes s[k] d hde (by omega) W)
        rw [hde] at hrd2 hd
        have hor := or_join acc d hb hd
        have hw : IntKind.u64.wrap ((acc : Int) * 16) = (acc : Int) * 16 := by rw [IntKind.wrap_u64]; omega
        have hn : acc * 16 + d < 16 ^ (k + 1) := by rw [Nat.pow_succ] at hp2 ⊢; omega
        have H2 := hide hrd2
        have H3 := hide hn
        clear hrd2 hdr hrd hde hp hp2 hn hacc
        go_wp2_with (go_at_call 44; refine (hC.out _).mono ?_; rintro e w1 ⟨rfl, rfl⟩)
        go_round
        case rel => exact ⟨k + 1, acc * 16 + d, by omega, by go_num, rfl, H3.out, H2.out⟩
        case measure => simp [intOf]; omega
      · rw [if_neg hd] at hrd2
        have hC := hide (fun W => ib_no s[k] hd W)
        have H2 := hide hrd2
        clear hrd2 hdr hrd hp hp2 hacc hd hb
        go_wp2_with (go_at_call 44; refine (hC.out _).mono ?_; rintro e w1 ⟨rfl, rfl⟩)
        go_ret2
        exact ⟨by rw [← H2.out]; rfl, rfl⟩
    · obtain rfl : k = 16 := by omega
      have h1 := hrd.out
      rw [List.drop_of_length_le (by rw [Array.length_toList]; exact Nat.le_of_eq HS.out), rd] at h1
      obtain ⟨x, e, hv⟩ := ofV_is acc
      have hC := pof_any acc
      rw [hv] at hC
      have hC2 := hide hC
      have H1 := hide h1
      have HV := hide hv
      clear h1 hv hrd hacc hC
      go_wp2_with (go_at_call 13; refine (hC2.out _).mono ?_; rintro e w1 ⟨rfl, rfl⟩)
      go_ret2
      exact ⟨by rw [← H1.out]; show _ = Ending.returned (ofV acc); rw [HV.out]; rfl, rfl⟩

set_option maxHeartbeats 400000 in
theorem rread_short (s : ByteArray) (w : World) (hs : s.size ≠ 16) :
    Calls Try.prog 16 #[.string s] w fun e w' => e = .returned (.tuple #[.float .f64 0, .int .i64 5]) ∧ ∃ n, w' = w.drewN n := by
  have t0 : ((s.size : Int) != 16) = true := by simp; omega
  clear hs
  go_enter Try.func16, Try.ntmps16
  go_wp2
  go_ret2
  exact ⟨rfl, 0, rfl⟩

theorem digS_ne (c : UInt8) (m : Nat) (h : m < 16) (k : m ≤ dN c) (h' : m < (⟨#[48, 49, 50, 51, 52, 53, 54, 55, 56, 57, 97, 98, 99, 100, 101, 102]⟩ : ByteArray).size) :
    ((((⟨#[48, 49, 50, 51, 52, 53, 54, 55, 56, 57, 97, 98, 99, 100, 101, 102]⟩ : ByteArray)[m]'h').toNat : Int) != (c.toNat : Int)) = decide (m ≠ dN c) := by
  rw [digS_get]
  have := hexd_ne c m h k
  by_cases e : m = dN c
  · have e2 := this.2 e
    simp [e]
    rw [← e]; exact e2
  · have e2 : ¬ hexd m = (c.toNat : Int) := fun x => e (this.1 x)
    simp [e, e2]

/-- What stands at the head of a round of the document's Read. -/
def Out (w : World) (s : ByteArray) (R : Option Nat) (b i : Value) (W : World) : Prop :=
  ∃ k acc n : Nat, k ≤ 16 ∧ i = .int .i64 (k : Int) ∧ b = .int .u64 (acc : Int) ∧ acc < 16 ^ k ∧ Hid (rd (s.data.toList.drop k) acc = R) ∧ W = w.drewN n
/-- What stands at the head of a round that looks for a digit. -/
def Inn (w : World) (c : UInt8) (d : Value) (W : World) : Prop := ∃ m n : Nat, m ≤ 16 ∧ m ≤ dN c ∧ d = .int .i64 (m : Int) ∧ W = w.drewN n

theorem digits_q (w : World) : Calls Try.prog 45 #[] w fun e w' => e = .returned (.string ⟨#[48, 49, 50, 51, 52, 53, 54, 55, 56, 57, 97, 98, 99, 100, 101, 102]⟩) ∧ w' = w := (digits_any w).mono fun _ _ ⟨h, k⟩ => ⟨h, k.symm⟩
set_option maxHeartbeats 2000000 in
/-- The document's Read. -/
theorem rread_16 (s : ByteArray) (w : World) (hs : s.size = 16) :
    Calls Try.prog 16 #[.string s] w fun e w' => e = .returned (readV (rd s.data.toList 0)) ∧ ∃ n, w' = w.drewN n := by
  obtain ⟨R, hR⟩ : ∃ R, R = rd s.data.toList 0 := ⟨_, rfl⟩
  rw [← hR]
  have HR := hide hR
  have t0 : ((s.size : Int) != 16) = false := by simp; omega
  have HS := hide hs
  clear hs hR
  go_enter Try.func16, Try.ntmps16
  go_wp2_with fail
  go_loopw [4, 5] (fun b i wr => Out w s R b i wr) (fun _ i _ => 16 - (intOf i).toNat)
  case atStart => exact ⟨0, 0, 0, by omega, rfl, rfl, by simp, HR.out.symm, rfl⟩
  case round =>
    obtain ⟨k, acc, n, hk, rfl, rfl, hacc, hrd, rfl⟩ := hrel
    by_cases hlt : k < 16
    · have hks : k < s.size := by have := HS.out; omega
      have hdr := drop_cons s k hks
      have hrd2 := hrd.out
      rw [hdr, rd] at hrd2
      have hp : 16 ^ k ≤ 16 ^ 15 := Nat.pow_le_pow_right (by omega) (by omega)
      have hb : acc * 16 < 18446744073709551616 := by
        have : (16 : Nat) ^ 15 = 1152921504606846976 := by decide
        omega
      have hp2 : acc * 16 < 16 ^ (k + 1) := by rw [Nat.pow_succ]; omega
      obtain ⟨c, hc⟩ : ∃ c, s[k] = c := ⟨_, rfl⟩
      rw [hc] at hrd2
      have hn : dN c < 16 → acc * 16 + dN c < 16 ^ (k + 1) := by intro h; rw [Nat.pow_succ] at hp2 ⊢; omega
      have hor : dN c < 16 → bits .or .u64 ((acc : Int) * 16) (dN c : Int) = ((acc * 16 + dN c : Nat) : Int) := or_join acc (dN c) hb
      have hw : IntKind.u64.wrap ((acc : Int) * 16) = (acc : Int) * 16 := by rw [IntKind.wrap_u64]; omega
      have hne : ∀ m (h : m < 16) (k : m ≤ dN c) h', ((((⟨#[48, 49, 50, 51, 52, 53, 54, 55, 56, 57, 97, 98, 99, 100, 101, 102]⟩ : ByteArray)[m]'h').toNat : Int) != (c.toNat : Int)) = decide (m ≠ dN c) := digS_ne c
      have HN := hide hn
      have HO := hide hor
      have HE := hide hne
      have HC := hide hc
      have H2 := hide hrd2
      have hdle := dN_le c
      clear hrd2 hdr hrd hp hp2 hacc hn hor hne hc
      generalize dN c = q at *
      obtain ⟨W0, hW0⟩ : ∃ W0, W0 = w.drewN n := ⟨_, rfl⟩
      rw [← hW0]
      have HW0 := hide hW0
      clear hW0
      go_wp2_with fail
      go_loopw [6] (fun d wr => ∃ m n : Nat, m ≤ q ∧ d = .int .i64 (m : Int) ∧ wr = W0.drewN n) (fun d _ => 16 - (intOf d).toNat)
      case atStart => exact ⟨0, 0, by omega, rfl, rfl⟩
      case round =>
        obtain ⟨m, n2, hm, rfl, hW1⟩ := hrel
        have HW1 := hide hW1
        clear hW1
        rw [← HC.out] at HE
        by_cases hmq : m < q
        · have hm16 : m < 16 := by omega
          have hg : decide ((m : Int) < 16) = true := by simp; omega
          have hx := HE.out m hm16 (by omega) hm16
          rw [show decide (m ≠ q) = true by simp; omega] at hx
          have b1 : (m : Int) < 16 := by omega
          have b2 : (k : Int) < (s.size : Int) := by omega
          clear hm
          go_wp2_with fail
          go_quiet ((go_at_call 45; exact Calls.quiet_of_same (digits_q _)))
          go_wp2
          go_roundw
          case rel => exact ⟨m + 1, _, by omega, by go_num, by rw [HW1.out, World.drewN_drewN]⟩
          case measure => simp [intOf]; omega
        · obtain rfl : m = q := by omega
          by_cases hm16 : m < 16
          · have hg : decide ((m : Int) < 16) = true := by simp; omega
            have hx := HE.out m hm16 (by omega) hm16
            rw [show decide (m ≠ m) = false by simp] at hx
            have hor := HO.out hm16
            have hn := HN.out hm16
            have HN2 := hide hn
            have H3 := H2.out
            rw [if_pos hm16] at H3
            have H4 := hide H3
            have hmm : ¬ (m : Int) = 16 := by omega
            have b1 : (m : Int) < 16 := by omega
            have b2 : (k : Int) < (s.size : Int) := by omega
            clear hm hn H3
            go_wp2_with fail
            go_quiet ((go_at_call 45; exact Calls.quiet_of_same (digits_q _)))
            go_wp2
            go_roundw
            case rel => exact ⟨k + 1, acc * 16 + m, _, by omega, by go_num, rfl, HN2.out, H4.out, by rw [HW1.out, HW0.out, World.drewN_drewN, World.drewN_drewN]⟩
            case measure => simp [intOf]; omega
          · obtain rfl : m = 16 := by omega
            have hR := H2.out
            rw [if_neg (by omega)] at hR
            have H5 := hide hR
            clear hm hR
            have hg : decide (((16 : Nat) : Int) < 16) = false := by simp
            go_wp2_with fail
            go_quiet ((go_at_call 45; exact Calls.quiet_of_same (digits_q _)))
            go_wp2
            go_ret2
            exact ⟨by rw [← H5.out]; rfl, _, by rw [HW1.out, HW0.out, World.drewN_drewN, World.drewN_drewN]⟩
    · obtain rfl : k = 16 := by omega
      have h1 := hrd.out
      rw [List.drop_of_length_le (by rw [Array.length_toList]; exact Nat.le_of_eq HS.out), rd] at h1
      obtain ⟨x, e, hv⟩ := ofV_is acc
      have hC := rof_any acc
      rw [hv] at hC
      have hC2 := hide hC
      have H1 := hide h1
      have HV := hide hv
      clear h1 hv hrd hacc hC
      go_wp2_with (go_at_call 14; refine (hC2.out _).mono ?_; rintro e w1 ⟨rfl, rfl⟩)
      go_ret2
      exact ⟨by rw [← H1.out]; show _ = Ending.returned (ofV acc); rw [HV.out]; rfl, n, rfl⟩

end PaceE
end Go.Proofs.Ytoamiedaeofcaaa
