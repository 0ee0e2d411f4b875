/-
  The program's reader: what it is in memory; valid, reads, word, natural, truth.
-/
import Derived.Test.YtplinpbmncccoaaWirF
import Derived.Recover
namespace Go.Proofs.Ytplinpbmncccoaa
namespace WirG
open Go.RowKit
open BlkM WirM WirS WirA

def rcells (R : Nat) (v : Value) (at' fe fa : Int) : List Value := [.pointer (some ⟨R, 0, none⟩), v, .int .i64 at', .int .i64 fe, .int .i64 fa]
/-- A reader, as NewReader returned it: its block, its bytes, its place, its fault. -/
structure RSt (w : World) (R : Nat) (a : Option Addr) (c : Nat) (bs : List Int) (at' : Nat) (fe fa : Int) : Prop where
  cell : At w R 62 (rcells R (.slice a bs.length c) at' fe fa)
  bin : BIn w (.slice a bs.length c) bs
  off : (Value.slice a bs.length c).ownBlock ≠ some R
  olt : ∀ k, (Value.slice a bs.length c).ownBlock = some k → k < w.heap.size
  le : at' ≤ bs.length
  small : bs.length ≤ 1099511627776
  bytes : ∀ x ∈ bs, 0 ≤ x ∧ x < 256
def Xr (R : Nat) (k : Nat) : Prop := k = R
theorem RSt.lt {w : World} {R : Nat} {a : Option Addr} {c : Nat} {bs : List Int} {at' : Nat} {fe fa : Int} (h : RSt w R a c bs at' fe fa) : R < w.heap.size := h.cell.lt
theorem RSt.fr {X : Nat → Prop} {w w' : World} {R : Nat} {a : Option Addr} {c : Nat} {bs : List Int} {at' : Nat} {fe fa : Int} (h : RSt w R a c bs at' fe fa) (hf : Fr X w w') (hX : ¬ X R) (ho : Off X (.slice a bs.length c)) : RSt w' R a c bs at' fe fa :=
  ⟨At.fr h.cell hf hX, h.bin.fr hf ho, h.off, fun k hk => Nat.lt_of_lt_of_le (h.olt k hk) hf.size, h.le, h.small, h.bytes⟩
theorem RSt.below {w w' : World} {R : Nat} {a : Option Addr} {c : Nat} {bs : List Int} {at' : Nat} {fe fa : Int} (h : RSt w R a c bs at' fe fa) (hb : Below w.heap.size w w') : RSt w' R a c bs at' fe fa :=
  h.fr (X := fun _ => False) (Fr.of_below hb) (fun h => h) (fun _ _ h => h)
/-- No reader: nil, or one that nobody made. -/
def NoR (w : World) (p : Option Addr) : Prop := p = none ∨ ∃ S, p = some ⟨S, 0, none⟩ ∧ w.cell? ⟨S, 0, none⟩ = some (.pointer none)

theorem valid_any (w : World) (R : Nat) (c0 : w.cell? ⟨R, 0, none⟩ = some (.pointer (some ⟨R, 0, none⟩))) : Calls Try.prog 117 #[.pointer (some ⟨R, 0, none⟩)] w fun e w' => e = .returned (.bool true) ∧ w = w' := by
  have hq := ptr_eq Try.underlying48 (by kernel_rfl) R
  go_enter Try.func117, Try.ntmps117
  go_wp2
  go_ret
  exact ⟨rfl, rfl⟩
theorem valid_none (w : World) (p : Option Addr) (h : NoR w p) : Calls Try.prog 117 #[.pointer p] w fun e w' => e = .returned (.bool false) ∧ w = w' := by
  rcases h with rfl | ⟨S, rfl, hc⟩
  · go_enter Try.func117, Try.ntmps117
    go_wp2
    go_ret
    exact ⟨rfl, rfl⟩
  · have hq := nil_eq Try.underlying48 S
    go_enter Try.func117, Try.ntmps117
    go_wp2
    go_ret
    exact ⟨rfl, rfl⟩
theorem reads_none (w : World) (p : Option Addr) (h : NoR w p) : Calls Try.prog 116 #[.pointer p] w fun e w' => e = .returned (.bool false) ∧ w = w' := by
  have H := hide (valid_none w p h)
  clear h
  go_enter Try.func116, Try.ntmps116
  go_wp2_with ((go_at_call 117; refine (H.out).mono ?_; rintro e w1 ⟨rfl, rfl⟩))
  go_ret
  exact ⟨rfl, rfl⟩
theorem reads_any (w : World) (R : Nat) (a : Option Addr) (c : Nat) (bs : List Int) (at' : Nat) (fe fa : Int) (h : RSt w R a c bs at' fe fa) : Calls Try.prog 116 #[.pointer (some ⟨R, 0, none⟩)] w fun e w' => e = .returned (.bool (fe == 0)) ∧ w = w' := by
  have c0 : w.cell? ⟨R, 0, none⟩ = some (.pointer (some ⟨R, 0, none⟩)) := by rw [h.cell.cell]; rfl
  have c3 : w.cell? ⟨R, 3, none⟩ = some (.int .i64 fe) := by rw [h.cell.cell]; rfl
  have H := hide (valid_any w R c0)
  clear h c0
  go_enter Try.func116, Try.ntmps116
  go_wp2_with ((go_at_call 117; refine (H.out).mono ?_; rintro e w1 ⟨rfl, rfl⟩))
  go_ret
  exact ⟨rfl, rfl⟩

/-! ### Numbers out of bytes -/
def vL (zs : List Int) : Int := zs.foldl (fun n x => n * 256 + x) 0
theorem vL_snoc (zs : List Int) (x : Int) : vL (zs ++ [x]) = vL zs * 256 + x := by simp [vL]
theorem vL_from : ∀ (zs : List Int) (a : Int) (j : Nat), 0 ≤ a → a < 256 ^ j → (∀ x ∈ zs, 0 ≤ x ∧ x < 256) → 0 ≤ zs.foldl (fun n x => n * 256 + x) a ∧ zs.foldl (fun n x => n * 256 + x) a < 256 ^ (j + zs.length)
  | [], a, j, h0, h1, _ => by simpa using ⟨h0, h1⟩
  | x :: l, a, j, h0, h1, h => by
    have hx := h x (by simp)
    have := vL_from l (a * 256 + x) (j + 1) (by omega) (by rw [Int.pow_succ]; omega) (fun y hy => h y (by simp [hy]))
    rw [List.foldl_cons, List.length_cons, show j + (l.length + 1) = j + 1 + l.length by omega]
    exact this
theorem vL_lt (zs : List Int) (h : ∀ x ∈ zs, 0 ≤ x ∧ x < 256) : 0 ≤ vL zs ∧ vL zs < 256 ^ zs.length := by
  have := vL_from zs 0 0 (by omega) (by decide) h
  rwa [Nat.zero_add] at this
theorem or256 (m x : Int) (h0 : 0 ≤ m) (h1 : m < 72057594037927936) (x0 : 0 ≤ x) (x1 : x < 256) : bits .or .u64 (m * 256) x = m * 256 + x := by
  obtain ⟨a, rfl⟩ := Int.eq_ofNat_of_zero_le h0
  obtain ⟨b, rfl⟩ := Int.eq_ofNat_of_zero_le x0
  show IntKind.u64.wrap ((BitVec.ofInt 64 ((a : Int) * 256) ||| BitVec.ofInt 64 (b : Int)).toNat : Int) = _
  rw [show (a : Int) * 256 = ((2 ^ 8 * a : Nat) : Int) by omega, BitVec.ofInt_natCast, BitVec.ofInt_natCast, BitVec.toNat_or, BitVec.toNat_ofNat, BitVec.toNat_ofNat, Nat.mod_eq_of_lt (by omega), Nat.mod_eq_of_lt (by omega), ← Nat.two_pow_add_eq_or_of_lt (by omega : b < 2 ^ 8) a]
  simp [IntKind.wrap, IntKind.bits, IntKind.signed]
  omega
theorem take_snoc (zs : List Int) (k : Nat) (h : k < zs.length) : zs.take (k + 1) = zs.take k ++ [zs.getD k 0] := by
  rw [List.take_succ_eq_append_getElem h]
  simp [List.getD, h]
theorem vL_bound (zs : List Int) (hr : ∀ x ∈ zs, 0 ≤ x ∧ x < 256) (k : Nat) (hk : k ≤ zs.length) : 0 ≤ vL (zs.take k) ∧ vL (zs.take k) < 256 ^ k := by
  have := vL_lt (zs.take k) (fun x hx => hr x (List.mem_of_mem_take hx))
  rw [List.length_take, Nat.min_eq_left hk] at this
  exact this
set_option maxHeartbeats 1000000 in
theorem word_some (w : World) (B o c : Nat) (zs : List Int) (hc : ∀ i, i < zs.length → w.cell? ⟨B, o + i, none⟩ = some (.int .u8 (zs.getD i 0))) (hr : ∀ x ∈ zs, 0 ≤ x ∧ x < 256) (h8 : zs.length ≤ 8) :
    Calls Try.prog 138 #[.slice (some ⟨B, o, none⟩) zs.length c] w fun e w' => e = .returned (.int .u64 (vL zs)) ∧ w = w' := by
  obtain ⟨n, hn⟩ : ∃ n, n = zs.length := ⟨_, rfl⟩
  have HC := hide hc
  have HN := hide hn
  rw [← hn] at h8 ⊢
  clear hc hn
  go_enter Try.func138, Try.ntmps138
  go_wp2_with fail
  go_loop [3, 8] (fun t i => ∃ k : Nat, k ≤ n ∧ i = .int .i64 k ∧ t = .int .u64 (vL (zs.take k))) (fun _ i => n - (intOf i).toNat)
  case atStart => exact ⟨0, Nat.zero_le _, rfl, rfl⟩
  case round =>
    obtain ⟨k, hk, rfl, rfl⟩ := hrel
    by_cases hlt : k < n
    · have hcell := HC.out k (by rw [← HN.out]; exact hlt)
      have hb := vL_bound zs hr k (by rw [← HN.out]; exact hk)
      have hx : 0 ≤ zs.getD k 0 ∧ zs.getD k 0 < 256 := by
        have hl : k < zs.length := by rw [← HN.out]; exact hlt
        have := hr zs[k] (List.getElem_mem hl)
        simpa [List.getD, hl] using this
      have hs := hide (show vL (zs.take (k + 1)) = vL (zs.take k) * 256 + zs.getD k 0 by rw [take_snoc zs k (by rw [← HN.out]; exact hlt), vL_snoc])
      generalize zs.getD k 0 = x at hcell hx hs
      have hp : (256 : Int) ^ k ≤ 256 ^ 7 := by have := Nat.pow_le_pow_right (n := 256) (by decide) (show k ≤ 7 by omega); have h2 : ((256 ^ k : Nat) : Int) ≤ ((256 ^ 7 : Nat) : Int) := Int.ofNat_le.2 this; rw [Int.natCast_pow, Int.natCast_pow] at h2; exact h2
      generalize vL (zs.take k) = m at hb hs ⊢
      have h256 := Int.lt_of_lt_of_le hb.2 hp
      have hm := hb.1
      obtain ⟨hx0, hx1⟩ := hx
      have hor := or256 m x hm (by omega) hx0 hx1
      clear hb hp
      go_wp2_with fail
      exact ⟨⟨k + 1, by omega, by go_num, by rw [hs.out]⟩, by simp [intOf]; omega⟩
    · obtain rfl : k = n := by omega
      have HV := hide (show vL (zs.take k) = vL zs by rw [HN.out, List.take_length])
      generalize vL (zs.take k) = m at HV ⊢
      go_wp2_with fail
      go_ret
      exact ⟨by rw [← HV.out]; rfl, rfl⟩
theorem word_any (w : World) (a : Option Addr) (n c : Nat) (zs : List Int) (h : BIn w (.slice a n c) zs) (hr : ∀ x ∈ zs, 0 ≤ x ∧ x < 256) (h8 : zs.length ≤ 8) :
    Calls Try.prog 138 #[.slice a n c] w fun e w' => e = .returned (.int .u64 (vL zs)) ∧ w = w' := by
  obtain ⟨a', c', e1, _, hz⟩ := h
  obtain ⟨rfl, rfl, rfl⟩ : a = a' ∧ n = zs.length ∧ c = c' := by cases e1; exact ⟨rfl, rfl, rfl⟩
  by_cases hne : zs = []
  · subst hne
    clear hz e1
    show Calls _ _ #[.slice a 0 c] w _
    go_enter Try.func138, Try.ntmps138
    go_wp2_with fail
    refine wp_loop_rounds 1 ?_
    rw [rounds_succ]
    go_wp2_with fail
    go_ret
    exact ⟨rfl, rfl⟩
  · obtain ⟨B, o, rfl, _, hc⟩ := hz hne
    exact word_some w B o c zs hc hr h8
end WirG
end Go.Proofs.Ytplinpbmncccoaa
