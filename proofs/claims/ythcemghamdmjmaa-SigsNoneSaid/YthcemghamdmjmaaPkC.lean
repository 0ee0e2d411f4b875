/-
  WirG, WirH, WirI, WirJ, WirK, WirL, StpB, in one text.
-/
import Derived.Test.YthcemghamdmjmaaPkB
import Derived.Recover
namespace Go.Proofs.Ythcemghamdmjmaa
namespace WirG
open Go.RowKit
open BlkM WirM WirS WirA

def rcells (R : Nat) (v : Value) (at' fe fa : Int) : List Value := [.pointer (some ⟨R, 0, none⟩), v, .int .i64 at', .int .i64 fe, .int .i64 fa]
/-- A reader, as NewReader returned it: its block, its bytes, its place, its fault. -/
structure RSt (w : World) (R : Nat) (a : Option Addr) (c : Nat) (bs : List Int) (at' : Nat) (fe fa : Int) : Prop where
  cell : At w R 62 (rcells R (.slice a bs.length c) at' fe fa)
  bin : BIn w (.slice a bs.length c) bs
  off : (Value.slice a bs.length c).ownBlock ≠ some R
  olt : ∀ k, (Value.slice a bs.length c).ownBlock = some k → k < w.heap.size
  le : at' ≤ bs.length
  small : bs.length ≤ 1099511627776
  bytes : ∀ x ∈ bs, 0 ≤ x ∧ x < 256
def Xr (R : Nat) (k : Nat) : Prop := k = R
theorem RSt.lt {w : World} {R : Nat} {a : Option Addr} {c : Nat} {bs : List Int} {at' : Nat} {fe fa : Int} (h : RSt w R a c bs at' fe fa) : R < w.heap.size := h.cell.lt
theorem RSt.fr {X : Nat → Prop} {w w' : World} {R : Nat} {a : Option Addr} {c : Nat} {bs : List Int} {at' : Nat} {fe fa : Int} (h : RSt w R a c bs at' fe fa) (hf : Fr X w w') (hX : ¬ X R) (ho : Off X (.slice a bs.length c)) : RSt w' R a c bs at' fe fa :=
  ⟨At.fr h.cell hf hX, h.bin.fr hf ho, h.off, fun k hk => Nat.lt_of_lt_of_le (h.olt k hk) hf.size, h.le, h.small, h.bytes⟩
theorem RSt.below {w w' : World} {R : Nat} {a : Option Addr} {c : Nat} {bs : List Int} {at' : Nat} {fe fa : Int} (h : RSt w R a c bs at' fe fa) (hb : Below w.heap.size w w') : RSt w' R a c bs at' fe fa :=
  h.fr (X := fun _ => False) (Fr.of_below hb) (fun h => h) (fun _ _ h => h)
/-- No reader: nil, or one that nobody made. -/
def NoR (w : World) (p : Option Addr) : Prop := p = none ∨ ∃ S, p = some ⟨S, 0, none⟩ ∧ w.cell? ⟨S, 0, none⟩ = some (.pointer none)

theorem valid_any (w : World) (R : Nat) (c0 : w.cell? ⟨R, 0, none⟩ = some (.pointer (some ⟨R, 0, none⟩))) : Calls Try.prog 124 #[.pointer (some ⟨R, 0, none⟩)] w fun e w' => e = .returned (.bool true) ∧ w = w' := by
  have hq := ptr_eq Try.underlying48 (by kernel_rfl) R
  go_enter Try.func124, Try.ntmps124
  go_wp2
  go_ret
  exact ⟨rfl, rfl⟩
theorem valid_none (w : World) (p : Option Addr) (h : NoR w p) : Calls Try.prog 124 #[.pointer p] w fun e w' => e = .returned (.bool false) ∧ w = w' := by
  rcases h with rfl | ⟨S, rfl, hc⟩
  · go_enter Try.func124, Try.ntmps124
    go_wp2
    go_ret
    exact ⟨rfl, rfl⟩
  · have hq := nil_eq Try.underlying48 S
    go_enter Try.func124, Try.ntmps124
    go_wp2
    go_ret
    exact ⟨rfl, rfl⟩
theorem reads_none (w : World) (p : Option Addr) (h : NoR w p) : Calls Try.prog 123 #[.pointer p] w fun e w' => e = .returned (.bool false) ∧ w = w' := by
  have H := hide (valid_none w p h)
  clear h
  go_enter Try.func123, Try.ntmps123
  go_wp2_with ((go_at_call 124; refine (H.out).mono ?_; rintro e w1 ⟨rfl, rfl⟩))
  go_ret
  exact ⟨rfl, rfl⟩
theorem reads_any (w : World) (R : Nat) (a : Option Addr) (c : Nat) (bs : List Int) (at' : Nat) (fe fa : Int) (h : RSt w R a c bs at' fe fa) : Calls Try.prog 123 #[.pointer (some ⟨R, 0, none⟩)] w fun e w' => e = .returned (.bool (fe == 0)) ∧ w = w' := by
  have c0 : w.cell? ⟨R, 0, none⟩ = some (.pointer (some ⟨R, 0, none⟩)) := by rw [h.cell.cell]; rfl
  have c3 : w.cell? ⟨R, 3, none⟩ = some (.int .i64 fe) := by rw [h.cell.cell]; rfl
  have H := hide (valid_any w R c0)
  clear h c0
  go_enter Try.func123, Try.ntmps123
  go_wp2_with ((go_at_call 124; refine (H.out).mono ?_; rintro e w1 ⟨rfl, rfl⟩))
  go_ret
  exact ⟨rfl, rfl⟩

/-! ### Numbers out of bytes -/
def vL (zs : List Int) : Int := zs.foldl (fun n x => n * 256 + x) 0
theorem vL_snoc (zs : List Int) (x : Int) : vL (zs ++ [x]) = vL zs * 256 + x := by simp [vL]
theorem vL_from : ∀ (zs : List Int) (a : Int) (j : Nat), 0 ≤ a → a < 256 ^ j → (∀ x ∈ zs, 0 ≤ x ∧ x < 256) → 0 ≤ zs.foldl (fun n x => n * 256 + x) a ∧ zs.foldl (fun n x => n * 256 + x) a < 256 ^ (j + zs.length)
  | [], a, j, h0, h1, _ => by simpa using ⟨h0, h1⟩
  | x :: l, a, j, h0, h1, h => by
    have hx := h x (by simp)
    have := vL_from l (a * 256 + x) (j + 1) (by omega) (by rw [Int.pow_succ]; omega) (fun y hy => h y (by simp [hy]))
    rw [List.foldl_cons, List.length_cons, show j + (l.length + 1) = j + 1 + l.length by omega]
    exact this
theorem vL_lt (zs : List Int) (h : ∀ x ∈ zs, 0 ≤ x ∧ x < 256) : 0 ≤ vL zs ∧ vL zs < 256 ^ zs.length := by
  have := vL_from zs 0 0 (by omega) (by decide) h
  rwa [Nat.zero_add] at this
theorem or256 (m x : Int) (h0 : 0 ≤ m) (h1 : m < 72057594037927936) (x0 : 0 ≤ x) (x1 : x < 256) : bits .or .u64 (m * 256) x = m * 256 + x := by
  obtain ⟨a, rfl⟩ := Int.eq_ofNat_of_zero_le h0
  obtain ⟨b, rfl⟩ := Int.eq_ofNat_of_zero_le x0
  show IntKind.u64.wrap ((BitVec.ofInt 64 ((a : Int) * 256) ||| BitVec.ofInt 64 (b : Int)).toNat : Int) = _
  rw [show (a : Int) * 256 = ((2 ^ 8 * a : Nat) : Int) by omega, BitVec.ofInt_natCast, BitVec.ofInt_natCast, BitVec.toNat_or, BitVec.toNat_ofNat, BitVec.toNat_ofNat, Nat.mod_eq_of_lt (by omega), Nat.mod_eq_of_lt (by omega), ← Nat.two_pow_add_eq_or_of_lt (by omega : b < 2 ^ 8) a]
  simp [IntKind.wrap, IntKind.bits, IntKind.signed]
  omega
theorem take_snoc (zs : List Int) (k : Nat) (h : k < zs.length) : zs.take (k + 1) = zs.take k ++ [zs.getD k 0] := by
  rw [List.take_succ_eq_append_getElem h]
  simp [List.getD, h]
theorem vL_bound (zs : List Int) (hr : ∀ x ∈ zs, 0 ≤ x ∧ x < 256) (k : Nat) (hk : k ≤ zs.length) : 0 ≤ vL (zs.take k) ∧ vL (zs.take k) < 256 ^ k := by
  have := vL_lt (zs.take k) (fun x hx => hr x (List.mem_of_mem_take hx))
  rw [List.length_take, Nat.min_eq_left hk] at this
  exact this
set_option maxHeartbeats 1000000 in
theorem word_some (w : World) (B o c : Nat) (zs : List Int) (hc : ∀ i, i < zs.length → w.cell? ⟨B, o + i, none⟩ = some (.int .u8 (zs.getD i 0))) (hr : ∀ x ∈ zs, 0 ≤ x ∧ x < 256) (h8 : zs.length ≤ 8) :
    Calls Try.prog 145 #[.slice (some ⟨B, o, none⟩) zs.length c] w fun e w' => e = .returned (.int .u64 (vL zs)) ∧ w = w' := by
  obtain ⟨n, hn⟩ : ∃ n, n = zs.length := ⟨_, rfl⟩
  have HC := hide hc
  have HN := hide hn
  rw [← hn] at h8 ⊢
  clear hc hn
  go_enter Try.func145, Try.ntmps145
  go_wp2_with fail
  go_loop [3, 8] (fun t i => ∃ k : Nat, k ≤ n ∧ i = .int .i64 k ∧ t = .int .u64 (vL (zs.take k))) (fun _ i => n - (intOf i).toNat)
  case atStart => exact ⟨0, Nat.zero_le _, rfl, rfl⟩
  case round =>
    obtain ⟨k, hk, rfl, rfl⟩ := hrel
    by_cases hlt : k < n
    · have hcell := HC.out k (by rw [← HN.out]; exact hlt)
      have hb := vL_bound zs hr k (by rw [← HN.out]; exact hk)
      have hx : 0 ≤ zs.getD k 0 ∧ zs.getD k 0 < 256 := by
        have hl : k < zs.length := by rw [← HN.out]; exact hlt
        have := hr zs[k] (List.getElem_mem hl)
        simpa [List.getD, hl] using this
      have hs := hide (show vL (zs.take (k + 1)) = vL (zs.take k) * 256 + zs.getD k 0 by rw [take_snoc zs k (by rw [← HN.out]; exact hlt), vL_snoc])
      generalize zs.getD k 0 = x at hcell hx hs
      have hp : (256 : Int) ^ k ≤ 256 ^ 7 := by have := Nat.pow_le_pow_right (n := 256) (by decide) (show k ≤ 7 by omega); have h2 : ((256 ^ k : Nat) : Int) ≤ ((256 ^ 7 : Nat) : Int) := Int.ofNat_le.2 this; rw [Int.natCast_pow, Int.natCast_pow] at h2; exact h2
      generalize vL (zs.take k) = m at hb hs ⊢
      have h256 := Int.lt_of_lt_of_le hb.2 hp
      have hm := hb.1
      obtain ⟨hx0, hx1⟩ := hx
      have hor := or256 m x hm (by omega) hx0 hx1
      clear hb hp
      go_wp2_with fail
      exact ⟨⟨k + 1, by omega, by go_num, by rw [hs.out]⟩, by simp [intOf]; omega⟩
    · obtain rfl : k = n := by omega
      have HV := hide (show vL (zs.take k) = vL zs by rw [HN.out, List.take_length])
      generalize vL (zs.take k) = m at HV ⊢
      go_wp2_with fail
      go_ret
      exact ⟨by rw [← HV.out]; rfl, rfl⟩
theorem word_any (w : World) (a : Option Addr) (n c : Nat) (zs : List Int) (h : BIn w (.slice a n c) zs) (hr : ∀ x ∈ zs, 0 ≤ x ∧ x < 256) (h8 : zs.length ≤ 8) :
    Calls Try.prog 145 #[.slice a n c] w fun e w' => e = .returned (.int .u64 (vL zs)) ∧ w = w' := by
  obtain ⟨a', c', e1, _, hz⟩ := h
  obtain ⟨rfl, rfl, rfl⟩ : a = a' ∧ n = zs.length ∧ c = c' := by cases e1; exact ⟨rfl, rfl, rfl⟩
  by_cases hne : zs = []
  · subst hne
    clear hz e1
    show Calls _ _ #[.slice a 0 c] w _
    go_enter Try.func145, Try.ntmps145
    go_wp2_with fail
    refine wp_loop_rounds 1 ?_
    rw [rounds_succ]
    go_wp2_with fail
    go_ret
    exact ⟨rfl, rfl⟩
  · obtain ⟨B, o, rfl, _, hc⟩ := hz hne
    exact word_some w B o c zs hc hr h8
end WirG
end Go.Proofs.Ythcemghamdmjmaa

namespace Go.Proofs.Ythcemghamdmjmaa
namespace WirH
open Go.RowKit
open BlkM WirM WirS WirA WirB WirG

/-- The panic that ends an element. -/
def hp (c : Int) : List PanicEntry := [{ v := .iface 238 (.agg #[.int .i64 c]), recovered := false }]
def badN (zs : List Int) : Prop := (zs ≠ [] ∧ zs.getD 0 0 = 0) ∨ 9223372036854775807 < vL zs
instance (zs : List Int) : Decidable (badN zs) := by unfold badN; exact inferInstance
set_option maxHeartbeats 1000000 in
theorem natural_bad (w : World) (a : Option Addr) (n c : Nat) (zs : List Int) (h : BIn w (.slice a n c) zs) (hr : ∀ x ∈ zs, 0 ≤ x ∧ x < 256) (h8 : zs.length ≤ 8) (hb : badN zs) :
    Calls Try.prog 203 #[.slice a n c] w fun e w' => e = .panicked (hp 5) ∧ w = w' := by
  have H := hide (word_any w a n c zs h hr h8)
  obtain ⟨a', c', e1, _, hz⟩ := h
  obtain ⟨rfl, rfl, rfl⟩ : a = a' ∧ n = zs.length ∧ c = c' := by cases e1; exact ⟨rfl, rfl, rfl⟩
  have hv := vL_lt zs hr
  by_cases hne : zs = []
  · subst hne
    rcases hb with ⟨h, _⟩ | h
    · exact absurd rfl h
    · simp [vL] at h
  · obtain ⟨B, o, rfl, _, hc⟩ := hz hne
    have hpos : 0 < zs.length := List.length_pos_iff.2 hne
    have hc0 := hc 0 hpos
    rw [Nat.add_zero] at hc0
    have hb' : zs.getD 0 0 = 0 ∨ (¬ zs.getD 0 0 = 0 ∧ 9223372036854775807 < vL zs) := by
      by_cases h0 : zs.getD 0 0 = 0
      · exact .inl h0
      · exact .inr ⟨h0, hb.elim (fun h => absurd h.2 h0) id⟩
    obtain ⟨k, hk⟩ : ∃ k, k = zs.length := ⟨_, rfl⟩
    generalize zs.getD 0 0 = x at hc0 hb'
    generalize vL zs = m at H hv hb'
    rw [← hk] at hpos H ⊢
    clear hc hb hk e1 hz
    rcases hb' with rfl | ⟨h0, h1⟩
    · go_enter Try.func203, Try.ntmps203
      go_wp2_with ((go_at_call 145; refine (H.out).mono ?_; rintro e w1 ⟨rfl, rfl⟩))
      exact ⟨rfl, rfl, rfl⟩
    · have e0 : (x == 0) = false := by simpa using h0
      go_enter Try.func203, Try.ntmps203
      go_wp2_with ((go_at_call 145; refine (H.out).mono ?_; rintro e w1 ⟨rfl, rfl⟩))
      exact ⟨rfl, rfl, rfl⟩
set_option maxHeartbeats 1000000 in
theorem natural_ok (w : World) (a : Option Addr) (n c : Nat) (zs : List Int) (h : BIn w (.slice a n c) zs) (hr : ∀ x ∈ zs, 0 ≤ x ∧ x < 256) (h8 : zs.length ≤ 8) (hb : ¬ badN zs) :
    Calls Try.prog 203 #[.slice a n c] w fun e w' => e = .returned (.int .i64 (vL zs)) ∧ w = w' := by
  have H := hide (word_any w a n c zs h hr h8)
  obtain ⟨a', c', e1, _, hz⟩ := h
  obtain ⟨rfl, rfl, rfl⟩ : a = a' ∧ n = zs.length ∧ c = c' := by cases e1; exact ⟨rfl, rfl, rfl⟩
  have hv := (vL_lt zs hr).1
  have hv2 : ¬ 9223372036854775807 < vL zs := fun h => hb (.inr h)
  by_cases hne : zs = []
  · subst hne
    have HV := hide (show vL [] = 0 from rfl)
    generalize vL [] = m at H hv hv2 HV ⊢
    clear hz e1 hb
    have hv3 : m ≤ 9223372036854775807 := by omega
    go_enter Try.func203, Try.ntmps203
    go_wp2_with ((go_at_call 145; refine (H.out).mono ?_; rintro e w1 ⟨rfl, rfl⟩))
    go_ret
    exact ⟨rfl, rfl⟩
  · obtain ⟨B, o, rfl, _, hc⟩ := hz hne
    have hpos : 0 < zs.length := List.length_pos_iff.2 hne
    have hc0 := hc 0 hpos
    rw [Nat.add_zero] at hc0
    have h0 : ¬ zs.getD 0 0 = 0 := fun h => hb (.inl ⟨hne, h⟩)
    obtain ⟨k, hk⟩ : ∃ k, k = zs.length := ⟨_, rfl⟩
    generalize zs.getD 0 0 = x at hc0 h0
    generalize vL zs = m at H hv hv2 ⊢
    rw [← hk] at hpos H ⊢
    have e0 : (x == 0) = false := by simpa using h0
    have hv3 : m ≤ 9223372036854775807 := by omega
    clear hc hb hk e1 hz
    go_enter Try.func203, Try.ntmps203
    go_wp2_with ((go_at_call 145; refine (H.out).mono ?_; rintro e w1 ⟨rfl, rfl⟩))
    go_ret
    exact ⟨rfl, rfl⟩
theorem truth_bad (w : World) (a : Option Addr) (n c : Nat) (x : Int) (h : BIn w (.slice a n c) [x]) (hx : 1 < x) : Calls Try.prog 153 #[.slice a n c] w fun e w' => e = .panicked (hp 5) ∧ w = w' := by
  obtain ⟨a', c', e1, _, hz⟩ := h
  obtain ⟨rfl, rfl, rfl⟩ : a = a' ∧ n = 1 ∧ c = c' := by cases e1; exact ⟨rfl, rfl, rfl⟩
  obtain ⟨B, o, rfl, _, hc⟩ := hz (by simp)
  have hc0 : w.cell? ⟨B, o, none⟩ = some (.int .u8 x) := hc 0 (by simp)
  clear hc hz e1
  go_enter Try.func153, Try.ntmps153
  go_wp2
  exact ⟨rfl, rfl, rfl⟩
theorem truth_ok (w : World) (a : Option Addr) (n c : Nat) (x : Int) (h : BIn w (.slice a n c) [x]) (hx : ¬ 1 < x) : Calls Try.prog 153 #[.slice a n c] w fun e w' => e = .returned (.bool (x == 1)) ∧ w = w' := by
  obtain ⟨a', c', e1, _, hz⟩ := h
  obtain ⟨rfl, rfl, rfl⟩ : a = a' ∧ n = 1 ∧ c = c' := by cases e1; exact ⟨rfl, rfl, rfl⟩
  obtain ⟨B, o, rfl, _, hc⟩ := hz (by simp)
  have hc0 : w.cell? ⟨B, o, none⟩ = some (.int .u8 x) := hc 0 (by simp)
  clear hc hz e1
  go_enter Try.func153, Try.ntmps153
  go_wp2
  go_ret
  exact ⟨rfl, rfl⟩

/-! ### take -/
def Got (w : World) (R : Nat) (a : Option Addr) (c : Nat) (bs : List Int) (v : Value) (at' : Nat) (e : Ending) (w' : World) : Prop := e = .returned v ∧ RSt w' R a c bs at' 0 0 ∧ Fr (Xr R) w w'
def Bad (w : World) (R : Nat) (a : Option Addr) (c : Nat) (bs : List Int) (code : Int) (e : Ending) (w' : World) : Prop := e = .panicked (hp code) ∧ (∃ at', RSt w' R a c bs at' 0 0) ∧ Fr (Xr R) w w'
/-- Where a part of bytes begins. -/
def sa (a : Option Addr) (c at' : Nat) : Option Addr := if c = at' then a else a.map (·.add at')
theorem bin_sub {w : World} {a : Option Addr} {c : Nat} {bs : List Int} (h : BIn w (.slice a bs.length c) bs) (at' n : Nat) (hn : at' + n ≤ bs.length) : BIn w (.slice (sa a c at') n (c - at')) ((bs.drop at').take n) := by
  obtain ⟨a', c', e1, hc, hz⟩ := h
  obtain ⟨rfl, rfl⟩ : a = a' ∧ c = c' := by cases e1; exact ⟨rfl, rfl⟩
  have hl : ((bs.drop at').take n).length = n := by simp; omega
  refine ⟨_, _, by rw [hl], by rw [hl]; omega, fun hne => ?_⟩
  have hpos : 0 < n := by
    have := List.length_pos_iff.2 hne
    omega
  obtain ⟨B, o, rfl, hB, hcell⟩ := hz (by intro h; subst h; simp at hn; omega)
  have hca : ¬ c = at' := by omega
  refine ⟨B, o + at', by simp [sa, hca, Addr.add_lit], hB, fun i hi => ?_⟩
  rw [hl] at hi
  rw [Nat.add_assoc, hcell (at' + i) (by omega)]
  simp [List.getD, hi]
theorem sub_rng {bs : List Int} (h : ∀ x ∈ bs, 0 ≤ x ∧ x < 256) (at' n : Nat) : ∀ x ∈ (bs.drop at').take n, 0 ≤ x ∧ x < 256 := fun x hx => h x (List.mem_of_mem_drop (List.mem_of_mem_take hx))
theorem slR (a : Option Addr) (len cap l m n : Nat) (hm : m = l + n) (h : m ≤ len) (hc : len ≤ cap) (Y : World) : (Instr.sliceAt 32 (.slice a len cap) (some (.int .i64 (l : Int))) (some (.int .i64 (m : Int))) none).run Try.prog Y = .ok (.slice (sa a cap l) n (cap - l)) Y := by
  have hu : Try.prog.underlying 32 = some (.slice (Try.prog.elem 32)) := by kernel_rfl
  rw [run_sliceAt_slice Y 32 _ _ _ _ hu, run_slice_lh Y 32 a len cap hu .i64 .i64 (l : Int) (m : Int) (by omega) (by omega) (by omega)]
  have hs : (sizeOf (Try.prog.elem 32)).run Try.prog Y = .ok 1 Y := by kernel_rfl
  rw [hs]
  simp [sliced, sa]
  omega
theorem RSt_move {w : World} {R : Nat} {a : Option Addr} {c : Nat} {bs : List Int} {at' : Nat} {fe fa : Int} (h : RSt w R a c bs at' fe fa) (m : Nat) (hm : m ≤ bs.length) : RSt (w.setCell ⟨R, 2, none⟩ (.int .i64 (m : Int))) R a c bs m fe fa :=
  ⟨h.cell.setCell 2 _, h.bin.fr (X := fun k => k = R) ((Fr.refl _ w).setCell R 2 _ (fun _ => rfl)) (fun k hk hx => h.off (by rw [hk, hx])), h.off, fun k hk => by simpa using h.olt k hk, hm, h.small, h.bytes⟩
theorem RSt_drawn {w : World} {R : Nat} {a : Option Addr} {c : Nat} {bs : List Int} {at' : Nat} {fe fa : Int} (h : RSt w R a c bs at' fe fa) (q : Nat) : RSt (w.drewN q) R a c bs at' fe fa :=
  h.fr (X := fun _ => False) (Fr.drewN (Fr.refl _ w) q) (fun h => h) (fun _ _ h => h)
theorem RSt_drew {w : World} {R : Nat} {a : Option Addr} {c : Nat} {bs : List Int} {at' : Nat} {fe fa : Int} (h : RSt w R a c bs at' fe fa) : RSt w.drew R a c bs at' fe fa :=
  h.fr (X := fun _ => False) (Fr.drew (Fr.refl _ w)) (fun h => h) (fun _ _ h => h)
set_option maxHeartbeats 1000000 in
theorem take_short_word (w : World) (R : Nat) (a : Option Addr) (c : Nat) (bs : List Int) (at' n : Nat) (fv : Value) (h : RSt w R a c bs at' 0 0) (_hn : n ≤ 9223372036854775807) (hs : bs.length < at' + n) :
    Calls Try.prog 144 #[.pointer (some ⟨R, 0, none⟩), .int .i64 (n : Int), fv] w (Bad w R a c bs 6) := by
  have c1 : w.cell? ⟨R, 1, none⟩ = some (.slice a bs.length c) := by rw [h.cell.cell]; rfl
  have c2 : w.cell? ⟨R, 2, none⟩ = some (.int .i64 (at' : Int)) := by rw [h.cell.cell]; rfl
  have hle := h.le
  have hsm := h.small
  have HR := hide (fun q => RSt_drawn h q)
  obtain ⟨k, hk⟩ : ∃ k, k = bs.length := ⟨_, rfl⟩
  rw [← hk] at hle hsm hs c1
  have w1 : IntKind.i64.wrap (↑k - ↑at') = (k : Int) - (at' : Int) := IntWalk.i64_in _ (by omega)
  have w3 : decide ((k : Int) - (at' : Int) < (n : Int)) = true := decide_eq_true (by omega)
  clear h hk
  go_enter Try.func144, Try.ntmps144
  go_upto_region 1 with fail
  go_quiet (fail)
  go_wp2_with fail
  exact ⟨rfl, rfl, ⟨at', HR.out _⟩, Fr.drewN (Fr.refl _ w) _⟩
set_option maxRecDepth 4000 in
set_option maxHeartbeats 1000000 in
theorem take_word (w : World) (R : Nat) (a : Option Addr) (c : Nat) (bs : List Int) (at' n : Nat) (h : RSt w R a c bs at' 0 0) (hn : at' + n ≤ bs.length) (Q : Ending → World → Prop) (hno : ∀ W, ¬ Q .outgrown W)
    (hG : ∀ W, RSt W R a c bs (at' + n) 0 0 → Fr (Xr R) w W → Calls Try.prog 145 #[.slice (sa a c at') n (c - at')] W Q) :
    Calls Try.prog 144 #[.pointer (some ⟨R, 0, none⟩), .int .i64 (n : Int), .func (.func 145) #[] #[]] w Q := by
  have c1 : w.cell? ⟨R, 1, none⟩ = some (.slice a bs.length c) := by rw [h.cell.cell]; rfl
  have c2 : w.cell? ⟨R, 2, none⟩ = some (.int .i64 (at' : Int)) := by rw [h.cell.cell]; rfl
  have f2 : w.frozen? ⟨R, 2, none⟩ = false := h.cell.frozen 2
  have hle := h.le
  have hsm := h.small
  obtain ⟨m, hm⟩ : ∃ m, m = at' + n := ⟨_, rfl⟩
  have hcap : bs.length ≤ c := by obtain ⟨_, _, e1, hc, _⟩ := h.bin; cases e1; exact hc
  have HG := hide hG
  have HW := hide (fun q => show RSt ((w.drewN q).setCell ⟨R, 2, none⟩ (.int .i64 (m : Int))) R a c bs (at' + n) 0 0 ∧ Fr (Xr R) w ((w.drewN q).setCell ⟨R, 2, none⟩ (.int .i64 (m : Int))) from ⟨by rw [hm]; exact RSt_move (RSt_drawn h q) (at' + n) hn, (Fr.drewN (Fr.refl (Xr R) w) q).setCell R 2 _ (fun _ => rfl)⟩)
  obtain ⟨k, hk⟩ : ∃ k, k = bs.length := ⟨_, rfl⟩
  rw [← hk] at hle hsm hn c1 hcap
  have w1 : IntKind.i64.wrap (↑k - ↑at') = (k : Int) - (at' : Int) := IntWalk.i64_in _ (by omega)
  have w2 : IntKind.i64.wrap (↑at' + ↑n) = (m : Int) := by rw [IntWalk.i64_in _ (by omega)]; omega
  have w4 : (at' : Int) + (n : Int) = (m : Int) := by omega
  have w3 : decide ((k : Int) - (at' : Int) < (n : Int)) = false := decide_eq_false (by omega)
  have hsl := slR a k c at' m n hm (by omega) hcap
  have HK := hide hk
  have HM := hide hm
  clear h hk hG hm
  go_enter Try.func144, Try.ntmps144
  go_upto_region 1 with fail
  go_quiet (fail)
  go_upto_region 5 with fail
  obtain ⟨W5, e5⟩ : ∃ X, X = (w.drewN nq).setCell ⟨R, 2, none⟩ (.int .i64 (m : Int)) := ⟨_, rfl⟩
  rw [← e5]
  have HW5 := HW.out nq
  rw [← e5] at HW5
  have c1' : W5.cell? ⟨R, 1, none⟩ = some (.slice a k c) := by rw [HW5.1.cell.cell, HK.out]; rfl
  have c2' : W5.cell? ⟨R, 2, none⟩ = some (.int .i64 (m : Int)) := by rw [HW5.1.cell.cell, HM.out]; rfl
  have HR5 := hide HW5.1
  have HF5 := hide HW5.2
  clear e5 HW5 c1 c2 f2 w1 w2 w3 w4
  go_still_tail 11, (by kernel_rfl)
  go_wp2_with fail
  refine (HG.out _ (RSt_drew HR5.out) (Fr.drew HF5.out)).mono ?_
  rintro (v | ch | _) w1 hq
  · have HQ := hide hq
    clear hq
    go_wp2_with fail
    exact HQ.out
  · exact ⟨rfl, hq⟩
  · exact absurd hq (hno _)
set_option maxHeartbeats 1000000 in
theorem take_short_natural (w : World) (R : Nat) (a : Option Addr) (c : Nat) (bs : List Int) (at' n : Nat) (fv : Value) (h : RSt w R a c bs at' 0 0) (_hn : n ≤ 9223372036854775807) (hs : bs.length < at' + n) :
    Calls Try.prog 202 #[.pointer (some ⟨R, 0, none⟩), .int .i64 (n : Int), fv] w (Bad w R a c bs 6) := by
  have c1 : w.cell? ⟨R, 1, none⟩ = some (.slice a bs.length c) := by rw [h.cell.cell]; rfl
  have c2 : w.cell? ⟨R, 2, none⟩ = some (.int .i64 (at' : Int)) := by rw [h.cell.cell]; rfl
  have hle := h.le
  have hsm := h.small
  have HR := hide (fun q => RSt_drawn h q)
  obtain ⟨k, hk⟩ : ∃ k, k = bs.length := ⟨_, rfl⟩
  rw [← hk] at hle hsm hs c1
  have w1 : IntKind.i64.wrap (↑k - ↑at') = (k : Int) - (at' : Int) := IntWalk.i64_in _ (by omega)
  have w3 : decide ((k : Int) - (at' : Int) < (n : Int)) = true := decide_eq_true (by omega)
  clear h hk
  go_enter Try.func202, Try.ntmps202
  go_upto_region 1 with fail
  go_quiet (fail)
  go_wp2_with fail
  exact ⟨rfl, rfl, ⟨at', HR.out _⟩, Fr.drewN (Fr.refl _ w) _⟩
set_option maxRecDepth 4000 in
set_option maxHeartbeats 1000000 in
theorem take_natural (w : World) (R : Nat) (a : Option Addr) (c : Nat) (bs : List Int) (at' n : Nat) (h : RSt w R a c bs at' 0 0) (hn : at' + n ≤ bs.length) (Q : Ending → World → Prop) (hno : ∀ W, ¬ Q .outgrown W)
    (hG : ∀ W, RSt W R a c bs (at' + n) 0 0 → Fr (Xr R) w W → Calls Try.prog 203 #[.slice (sa a c at') n (c - at')] W Q) :
    Calls Try.prog 202 #[.pointer (some ⟨R, 0, none⟩), .int .i64 (n : Int), .func (.func 203) #[] #[]] w Q := by
  have c1 : w.cell? ⟨R, 1, none⟩ = some (.slice a bs.length c) := by rw [h.cell.cell]; rfl
  have c2 : w.cell? ⟨R, 2, none⟩ = some (.int .i64 (at' : Int)) := by rw [h.cell.cell]; rfl
  have f2 : w.frozen? ⟨R, 2, none⟩ = false := h.cell.frozen 2
  have hle := h.le
  have hsm := h.small
  obtain ⟨m, hm⟩ : ∃ m, m = at' + n := ⟨_, rfl⟩
  have hcap : bs.length ≤ c := by obtain ⟨_, _, e1, hc, _⟩ := h.bin; cases e1; exact hc
  have HG := hide hG
  have HW := hide (fun q => show RSt ((w.drewN q).setCell ⟨R, 2, none⟩ (.int .i64 (m : Int))) R a c bs (at' + n) 0 0 ∧ Fr (Xr R) w ((w.drewN q).setCell ⟨R, 2, none⟩ (.int .i64 (m : Int))) from ⟨by rw [hm]; exact RSt_move (RSt_drawn h q) (at' + n) hn, (Fr.drewN (Fr.refl (Xr R) w) q).setCell R 2 _ (fun _ => rfl)⟩)
  obtain ⟨k, hk⟩ : ∃ k, k = bs.length := ⟨_, rfl⟩
  rw [← hk] at hle hsm hn c1 hcap
  have w1 : IntKind.i64.wrap (↑k - ↑at') = (k : Int) - (at' : Int) := IntWalk.i64_in _ (by omega)
  have w2 : IntKind.i64.wrap (↑at' + ↑n) = (m : Int) := by rw [IntWalk.i64_in _ (by omega)]; omega
  have w4 : (at' : Int) + (n : Int) = (m : Int) := by omega
  have w3 : decide ((k : Int) - (at' : Int) < (n : Int)) = false := decide_eq_false (by omega)
  have hsl := slR a k c at' m n hm (by omega) hcap
  have HK := hide hk
  have HM := hide hm
  clear h hk hG hm
  go_enter Try.func202, Try.ntmps202
  go_upto_region 1 with fail
  go_quiet (fail)
  go_upto_region 5 with fail
  obtain ⟨W5, e5⟩ : ∃ X, X = (w.drewN nq).setCell ⟨R, 2, none⟩ (.int .i64 (m : Int)) := ⟨_, rfl⟩
  rw [← e5]
  have HW5 := HW.out nq
  rw [← e5] at HW5
  have c1' : W5.cell? ⟨R, 1, none⟩ = some (.slice a k c) := by rw [HW5.1.cell.cell, HK.out]; rfl
  have c2' : W5.cell? ⟨R, 2, none⟩ = some (.int .i64 (m : Int)) := by rw [HW5.1.cell.cell, HM.out]; rfl
  have HR5 := hide HW5.1
  have HF5 := hide HW5.2
  clear e5 HW5 c1 c2 f2 w1 w2 w3 w4
  go_still_tail 11, (by kernel_rfl)
  go_wp2_with fail
  refine (HG.out _ (RSt_drew HR5.out) (Fr.drew HF5.out)).mono ?_
  rintro (v | ch | _) w1 hq
  · have HQ := hide hq
    clear hq
    go_wp2_with fail
    exact HQ.out
  · exact ⟨rfl, hq⟩
  · exact absurd hq (hno _)
set_option maxHeartbeats 1000000 in
theorem take_short_truth (w : World) (R : Nat) (a : Option Addr) (c : Nat) (bs : List Int) (at' n : Nat) (fv : Value) (h : RSt w R a c bs at' 0 0) (_hn : n ≤ 9223372036854775807) (hs : bs.length < at' + n) :
    Calls Try.prog 152 #[.pointer (some ⟨R, 0, none⟩), .int .i64 (n : Int), fv] w (Bad w R a c bs 6) := by
  have c1 : w.cell? ⟨R, 1, none⟩ = some (.slice a bs.length c) := by rw [h.cell.cell]; rfl
  have c2 : w.cell? ⟨R, 2, none⟩ = some (.int .i64 (at' : Int)) := by rw [h.cell.cell]; rfl
  have hle := h.le
  have hsm := h.small
  have HR := hide (fun q => RSt_drawn h q)
  obtain ⟨k, hk⟩ : ∃ k, k = bs.length := ⟨_, rfl⟩
  rw [← hk] at hle hsm hs c1
  have w1 : IntKind.i64.wrap (↑k - ↑at') = (k : Int) - (at' : Int) := IntWalk.i64_in _ (by omega)
  have w3 : decide ((k : Int) - (at' : Int) < (n : Int)) = true := decide_eq_true (by omega)
  clear h hk
  go_enter Try.func152, Try.ntmps152
  go_upto_region 1 with fail
  go_quiet (fail)
  go_wp2_with fail
  exact ⟨rfl, rfl, ⟨at', HR.out _⟩, Fr.drewN (Fr.refl _ w) _⟩
set_option maxRecDepth 4000 in
set_option maxHeartbeats 1000000 in
theorem take_truth (w : World) (R : Nat) (a : Option Addr) (c : Nat) (bs : List Int) (at' n : Nat) (h : RSt w R a c bs at' 0 0) (hn : at' + n ≤ bs.length) (Q : Ending → World → Prop) (hno : ∀ W, ¬ Q .outgrown W)
    (hG : ∀ W, RSt W R a c bs (at' + n) 0 0 → Fr (Xr R) w W → Calls Try.prog 153 #[.slice (sa a c at') n (c - at')] W Q) :
    Calls Try.prog 152 #[.pointer (some ⟨R, 0, none⟩), .int .i64 (n : Int), .func (.func 153) #[] #[]] w Q := by
  have c1 : w.cell? ⟨R, 1, none⟩ = some (.slice a bs.length c) := by rw [h.cell.cell]; rfl
  have c2 : w.cell? ⟨R, 2, none⟩ = some (.int .i64 (at' : Int)) := by rw [h.cell.cell]; rfl
  have f2 : w.frozen? ⟨R, 2, none⟩ = false := h.cell.frozen 2
  have hle := h.le
  have hsm := h.small
  obtain ⟨m, hm⟩ : ∃ m, m = at' + n := ⟨_, rfl⟩
  have hcap : bs.length ≤ c := by obtain ⟨_, _, e1, hc, _⟩ := h.bin; cases e1; exact hc
  have HG := hide hG
  have HW := hide (fun q => show RSt ((w.drewN q).setCell ⟨R, 2, none⟩ (.int .i64 (m : Int))) R a c bs (at' + n) 0 0 ∧ Fr (Xr R) w ((w.drewN q).setCell ⟨R, 2, none⟩ (.int .i64 (m : Int))) from ⟨by rw [hm]; exact RSt_move (RSt_drawn h q) (at' + n) hn, (Fr.drewN (Fr.refl (Xr R) w) q).setCell R 2 _ (fun _ => rfl)⟩)
  obtain ⟨k, hk⟩ : ∃ k, k = bs.length := ⟨_, rfl⟩
  rw [← hk] at hle hsm hn c1 hcap
  have w1 : IntKind.i64.wrap (↑k - ↑at') = (k : Int) - (at' : Int) := IntWalk.i64_in _ (by omega)
  have w2 : IntKind.i64.wrap (↑at' + ↑n) = (m : Int) := by rw [IntWalk.i64_in _ (by omega)]; omega
  have w4 : (at' : Int) + (n : Int) = (m : Int) := by omega
  have w3 : decide ((k : Int) - (at' : Int) < (n : Int)) = false := decide_eq_false (by omega)
  have hsl := slR a k c at' m n hm (by omega) hcap
  have HK := hide hk
  have HM := hide hm
  clear h hk hG hm
  go_enter Try.func152, Try.ntmps152
  go_upto_region 1 with fail
  go_quiet (fail)
  go_upto_region 5 with fail
  obtain ⟨W5, e5⟩ : ∃ X, X = (w.drewN nq).setCell ⟨R, 2, none⟩ (.int .i64 (m : Int)) := ⟨_, rfl⟩
  rw [← e5]
  have HW5 := HW.out nq
  rw [← e5] at HW5
  have c1' : W5.cell? ⟨R, 1, none⟩ = some (.slice a k c) := by rw [HW5.1.cell.cell, HK.out]; rfl
  have c2' : W5.cell? ⟨R, 2, none⟩ = some (.int .i64 (m : Int)) := by rw [HW5.1.cell.cell, HM.out]; rfl
  have HR5 := hide HW5.1
  have HF5 := hide HW5.2
  clear e5 HW5 c1 c2 f2 w1 w2 w3 w4
  go_still_tail 11, (by kernel_rfl)
  go_wp2_with fail
  refine (HG.out _ (RSt_drew HR5.out) (Fr.drew HF5.out)).mono ?_
  rintro (v | ch | _) w1 hq
  · have HQ := hide hq
    clear hq
    go_wp2_with fail
    exact HQ.out
  · exact ⟨rfl, hq⟩
  · exact absurd hq (hno _)
set_option maxHeartbeats 1000000 in
theorem take_short_text (w : World) (R : Nat) (a : Option Addr) (c : Nat) (bs : List Int) (at' n : Nat) (fv : Value) (h : RSt w R a c bs at' 0 0) (_hn : n ≤ 9223372036854775807) (hs : bs.length < at' + n) :
    Calls Try.prog 205 #[.pointer (some ⟨R, 0, none⟩), .int .i64 (n : Int), fv] w (Bad w R a c bs 6) := by
  have c1 : w.cell? ⟨R, 1, none⟩ = some (.slice a bs.length c) := by rw [h.cell.cell]; rfl
  have c2 : w.cell? ⟨R, 2, none⟩ = some (.int .i64 (at' : Int)) := by rw [h.cell.cell]; rfl
  have hle := h.le
  have hsm := h.small
  have HR := hide (fun q => RSt_drawn h q)
  obtain ⟨k, hk⟩ : ∃ k, k = bs.length := ⟨_, rfl⟩
  rw [← hk] at hle hsm hs c1
  have w1 : IntKind.i64.wrap (↑k - ↑at') = (k : Int) - (at' : Int) := IntWalk.i64_in _ (by omega)
  have w3 : decide ((k : Int) - (at' : Int) < (n : Int)) = true := decide_eq_true (by omega)
  clear h hk
  go_enter Try.func205, Try.ntmps205
  go_upto_region 1 with fail
  go_quiet (fail)
  go_wp2_with fail
  exact ⟨rfl, rfl, ⟨at', HR.out _⟩, Fr.drewN (Fr.refl _ w) _⟩
set_option maxRecDepth 4000 in
set_option maxHeartbeats 1000000 in
theorem take_text (w : World) (R : Nat) (a : Option Addr) (c : Nat) (bs : List Int) (at' n : Nat) (h : RSt w R a c bs at' 0 0) (hn : at' + n ≤ bs.length) (Q : Ending → World → Prop) (hno : ∀ W, ¬ Q .outgrown W)
    (hG : ∀ W, RSt W R a c bs (at' + n) 0 0 → Fr (Xr R) w W → Calls Try.prog 130 #[.slice (sa a c at') n (c - at')] W Q) :
    Calls Try.prog 205 #[.pointer (some ⟨R, 0, none⟩), .int .i64 (n : Int), .func (.func 130) #[] #[]] w Q := by
  have c1 : w.cell? ⟨R, 1, none⟩ = some (.slice a bs.length c) := by rw [h.cell.cell]; rfl
  have c2 : w.cell? ⟨R, 2, none⟩ = some (.int .i64 (at' : Int)) := by rw [h.cell.cell]; rfl
  have f2 : w.frozen? ⟨R, 2, none⟩ = false := h.cell.frozen 2
  have hle := h.le
  have hsm := h.small
  obtain ⟨m, hm⟩ : ∃ m, m = at' + n := ⟨_, rfl⟩
  have hcap : bs.length ≤ c := by obtain ⟨_, _, e1, hc, _⟩ := h.bin; cases e1; exact hc
  have HG := hide hG
  have HW := hide (fun q => show RSt ((w.drewN q).setCell ⟨R, 2, none⟩ (.int .i64 (m : Int))) R a c bs (at' + n) 0 0 ∧ Fr (Xr R) w ((w.drewN q).setCell ⟨R, 2, none⟩ (.int .i64 (m : Int))) from ⟨by rw [hm]; exact RSt_move (RSt_drawn h q) (at' + n) hn, (Fr.drewN (Fr.refl (Xr R) w) q).setCell R 2 _ (fun _ => rfl)⟩)
  obtain ⟨k, hk⟩ : ∃ k, k = bs.length := ⟨_, rfl⟩
  rw [← hk] at hle hsm hn c1 hcap
  have w1 : IntKind.i64.wrap (↑k - ↑at') = (k : Int) - (at' : Int) := IntWalk.i64_in _ (by omega)
  have w2 : IntKind.i64.wrap (↑at' + ↑n) = (m : Int) := by rw [IntWalk.i64_in _ (by omega)]; omega
  have w4 : (at' : Int) + (n : Int) = (m : Int) := by omega
  have w3 : decide ((k : Int) - (at' : Int) < (n : Int)) = false := decide_eq_false (by omega)
  have hsl := slR a k c at' m n hm (by omega) hcap
  have HK := hide hk
  have HM := hide hm
  clear h hk hG hm
  go_enter Try.func205, Try.ntmps205
  go_upto_region 1 with fail
  go_quiet (fail)
  go_upto_region 5 with fail
  obtain ⟨W5, e5⟩ : ∃ X, X = (w.drewN nq).setCell ⟨R, 2, none⟩ (.int .i64 (m : Int)) := ⟨_, rfl⟩
  rw [← e5]
  have HW5 := HW.out nq
  rw [← e5] at HW5
  have c1' : W5.cell? ⟨R, 1, none⟩ = some (.slice a k c) := by rw [HW5.1.cell.cell, HK.out]; rfl
  have c2' : W5.cell? ⟨R, 2, none⟩ = some (.int .i64 (m : Int)) := by rw [HW5.1.cell.cell, HM.out]; rfl
  have HR5 := hide HW5.1
  have HF5 := hide HW5.2
  clear e5 HW5 c1 c2 f2 w1 w2 w3 w4
  go_still_tail 11, (by kernel_rfl)
  go_wp2_with fail
  refine (HG.out _ (RSt_drew HR5.out) (Fr.drew HF5.out)).mono ?_
  rintro (v | ch | _) w1 hq
  · have HQ := hide hq
    clear hq
    go_wp2_with fail
    exact HQ.out
  · exact ⟨rfl, hq⟩
  · exact absurd hq (hno _)
set_option maxHeartbeats 1000000 in
theorem take_short_bytes (w : World) (R : Nat) (a : Option Addr) (c : Nat) (bs : List Int) (at' n : Nat) (fv : Value) (h : RSt w R a c bs at' 0 0) (_hn : n ≤ 9223372036854775807) (hs : bs.length < at' + n) :
    Calls Try.prog 207 #[.pointer (some ⟨R, 0, none⟩), .int .i64 (n : Int), fv] w (Bad w R a c bs 6) := by
  have c1 : w.cell? ⟨R, 1, none⟩ = some (.slice a bs.length c) := by rw [h.cell.cell]; rfl
  have c2 : w.cell? ⟨R, 2, none⟩ = some (.int .i64 (at' : Int)) := by rw [h.cell.cell]; rfl
  have hle := h.le
  have hsm := h.small
  have HR := hide (fun q => RSt_drawn h q)
  obtain ⟨k, hk⟩ : ∃ k, k = bs.length := ⟨_, rfl⟩
  rw [← hk] at hle hsm hs c1
  have w1 : IntKind.i64.wrap (↑k - ↑at') = (k : Int) - (at' : Int) := IntWalk.i64_in _ (by omega)
  have w3 : decide ((k : Int) - (at' : Int) < (n : Int)) = true := decide_eq_true (by omega)
  clear h hk
  go_enter Try.func207, Try.ntmps207
  go_upto_region 1 with fail
  go_quiet (fail)
  go_wp2_with fail
  exact ⟨rfl, rfl, ⟨at', HR.out _⟩, Fr.drewN (Fr.refl _ w) _⟩
set_option maxRecDepth 4000 in
set_option maxHeartbeats 1000000 in
theorem take_bytes (w : World) (R : Nat) (a : Option Addr) (c : Nat) (bs : List Int) (at' n : Nat) (h : RSt w R a c bs at' 0 0) (hn : at' + n ≤ bs.length) (Q : Ending → World → Prop) (hno : ∀ W, ¬ Q .outgrown W)
    (hG : ∀ W, RSt W R a c bs (at' + n) 0 0 → Fr (Xr R) w W → Calls Try.prog 113 #[.slice (sa a c at') n (c - at')] W Q) :
    Calls Try.prog 207 #[.pointer (some ⟨R, 0, none⟩), .int .i64 (n : Int), .func (.func 113) #[] #[]] w Q := by
  have c1 : w.cell? ⟨R, 1, none⟩ = some (.slice a bs.length c) := by rw [h.cell.cell]; rfl
  have c2 : w.cell? ⟨R, 2, none⟩ = some (.int .i64 (at' : Int)) := by rw [h.cell.cell]; rfl
  have f2 : w.frozen? ⟨R, 2, none⟩ = false := h.cell.frozen 2
  have hle := h.le
  have hsm := h.small
  obtain ⟨m, hm⟩ : ∃ m, m = at' + n := ⟨_, rfl⟩
  have hcap : bs.length ≤ c := by obtain ⟨_, _, e1, hc, _⟩ := h.bin; cases e1; exact hc
  have HG := hide hG
  have HW := hide (fun q => show RSt ((w.drewN q).setCell ⟨R, 2, none⟩ (.int .i64 (m : Int))) R a c bs (at' + n) 0 0 ∧ Fr (Xr R) w ((w.drewN q).setCell ⟨R, 2, none⟩ (.int .i64 (m : Int))) from ⟨by rw [hm]; exact RSt_move (RSt_drawn h q) (at' + n) hn, (Fr.drewN (Fr.refl (Xr R) w) q).setCell R 2 _ (fun _ => rfl)⟩)
  obtain ⟨k, hk⟩ : ∃ k, k = bs.length := ⟨_, rfl⟩
  rw [← hk] at hle hsm hn c1 hcap
  have w1 : IntKind.i64.wrap (↑k - ↑at') = (k : Int) - (at' : Int) := IntWalk.i64_in _ (by omega)
  have w2 : IntKind.i64.wrap (↑at' + ↑n) = (m : Int) := by rw [IntWalk.i64_in _ (by omega)]; omega
  have w4 : (at' : Int) + (n : Int) = (m : Int) := by omega
  have w3 : decide ((k : Int) - (at' : Int) < (n : Int)) = false := decide_eq_false (by omega)
  have hsl := slR a k c at' m n hm (by omega) hcap
  have HK := hide hk
  have HM := hide hm
  clear h hk hG hm
  go_enter Try.func207, Try.ntmps207
  go_upto_region 1 with fail
  go_quiet (fail)
  go_upto_region 5 with fail
  obtain ⟨W5, e5⟩ : ∃ X, X = (w.drewN nq).setCell ⟨R, 2, none⟩ (.int .i64 (m : Int)) := ⟨_, rfl⟩
  rw [← e5]
  have HW5 := HW.out nq
  rw [← e5] at HW5
  have c1' : W5.cell? ⟨R, 1, none⟩ = some (.slice a k c) := by rw [HW5.1.cell.cell, HK.out]; rfl
  have c2' : W5.cell? ⟨R, 2, none⟩ = some (.int .i64 (m : Int)) := by rw [HW5.1.cell.cell, HM.out]; rfl
  have HR5 := hide HW5.1
  have HF5 := hide HW5.2
  clear e5 HW5 c1 c2 f2 w1 w2 w3 w4
  go_still_tail 11, (by kernel_rfl)
  go_wp2_with fail
  refine (HG.out _ (RSt_drew HR5.out) (Fr.drew HF5.out)).mono ?_
  rintro (v | ch | _) w1 hq
  · have HQ := hide hq
    clear hq
    go_wp2_with fail
    exact HQ.out
  · exact ⟨rfl, hq⟩
  · exact absurd hq (hno _)
set_option maxHeartbeats 1000000 in
theorem take_short_pace (w : World) (R : Nat) (a : Option Addr) (c : Nat) (bs : List Int) (at' n : Nat) (fv : Value) (h : RSt w R a c bs at' 0 0) (_hn : n ≤ 9223372036854775807) (hs : bs.length < at' + n) :
    Calls Try.prog 148 #[.pointer (some ⟨R, 0, none⟩), .int .i64 (n : Int), fv] w (Bad w R a c bs 6) := by
  have c1 : w.cell? ⟨R, 1, none⟩ = some (.slice a bs.length c) := by rw [h.cell.cell]; rfl
  have c2 : w.cell? ⟨R, 2, none⟩ = some (.int .i64 (at' : Int)) := by rw [h.cell.cell]; rfl
  have hle := h.le
  have hsm := h.small
  have HR := hide (fun q => RSt_drawn h q)
  obtain ⟨k, hk⟩ : ∃ k, k = bs.length := ⟨_, rfl⟩
  rw [← hk] at hle hsm hs c1
  have w1 : IntKind.i64.wrap (↑k - ↑at') = (k : Int) - (at' : Int) := IntWalk.i64_in _ (by omega)
  have w3 : decide ((k : Int) - (at' : Int) < (n : Int)) = true := decide_eq_true (by omega)
  clear h hk
  go_enter Try.func148, Try.ntmps148
  go_upto_region 1 with fail
  go_quiet (fail)
  go_wp2_with fail
  exact ⟨rfl, rfl, ⟨at', HR.out _⟩, Fr.drewN (Fr.refl _ w) _⟩
set_option maxRecDepth 4000 in
set_option maxHeartbeats 1000000 in
theorem take_pace (w : World) (R : Nat) (a : Option Addr) (c : Nat) (bs : List Int) (at' n : Nat) (h : RSt w R a c bs at' 0 0) (hn : at' + n ≤ bs.length) (Q : Ending → World → Prop) (hno : ∀ W, ¬ Q .outgrown W)
    (hG : ∀ W, RSt W R a c bs (at' + n) 0 0 → Fr (Xr R) w W → Calls Try.prog 149 #[.slice (sa a c at') n (c - at')] W Q) :
    Calls Try.prog 148 #[.pointer (some ⟨R, 0, none⟩), .int .i64 (n : Int), .func (.func 149) #[] #[]] w Q := by
  have c1 : w.cell? ⟨R, 1, none⟩ = some (.slice a bs.length c) := by rw [h.cell.cell]; rfl
  have c2 : w.cell? ⟨R, 2, none⟩ = some (.int .i64 (at' : Int)) := by rw [h.cell.cell]; rfl
  have f2 : w.frozen? ⟨R, 2, none⟩ = false := h.cell.frozen 2
  have hle := h.le
  have hsm := h.small
  obtain ⟨m, hm⟩ : ∃ m, m = at' + n := ⟨_, rfl⟩
  have hcap : bs.length ≤ c := by obtain ⟨_, _, e1, hc, _⟩ := h.bin; cases e1; exact hc
  have HG := hide hG
  have HW := hide (fun q => show RSt ((w.drewN q).setCell ⟨R, 2, none⟩ (.int .i64 (m : Int))) R a c bs (at' + n) 0 0 ∧ Fr (Xr R) w ((w.drewN q).setCell ⟨R, 2, none⟩ (.int .i64 (m : Int))) from ⟨by rw [hm]; exact RSt_move (RSt_drawn h q) (at' + n) hn, (Fr.drewN (Fr.refl (Xr R) w) q).setCell R 2 _ (fun _ => rfl)⟩)
  obtain ⟨k, hk⟩ : ∃ k, k = bs.length := ⟨_, rfl⟩
  rw [← hk] at hle hsm hn c1 hcap
  have w1 : IntKind.i64.wrap (↑k - ↑at') = (k : Int) - (at' : Int) := IntWalk.i64_in _ (by omega)
  have w2 : IntKind.i64.wrap (↑at' + ↑n) = (m : Int) := by rw [IntWalk.i64_in _ (by omega)]; omega
  have w4 : (at' : Int) + (n : Int) = (m : Int) := by omega
  have w3 : decide ((k : Int) - (at' : Int) < (n : Int)) = false := decide_eq_false (by omega)
  have hsl := slR a k c at' m n hm (by omega) hcap
  have HK := hide hk
  have HM := hide hm
  clear h hk hG hm
  go_enter Try.func148, Try.ntmps148
  go_upto_region 1 with fail
  go_quiet (fail)
  go_upto_region 5 with fail
  obtain ⟨W5, e5⟩ : ∃ X, X = (w.drewN nq).setCell ⟨R, 2, none⟩ (.int .i64 (m : Int)) := ⟨_, rfl⟩
  rw [← e5]
  have HW5 := HW.out nq
  rw [← e5] at HW5
  have c1' : W5.cell? ⟨R, 1, none⟩ = some (.slice a k c) := by rw [HW5.1.cell.cell, HK.out]; rfl
  have c2' : W5.cell? ⟨R, 2, none⟩ = some (.int .i64 (m : Int)) := by rw [HW5.1.cell.cell, HM.out]; rfl
  have HR5 := hide HW5.1
  have HF5 := hide HW5.2
  clear e5 HW5 c1 c2 f2 w1 w2 w3 w4
  go_still_tail 11, (by kernel_rfl)
  go_wp2_with fail
  refine (HG.out _ (RSt_drew HR5.out) (Fr.drew HF5.out)).mono ?_
  rintro (v | ch | _) w1 hq
  · have HQ := hide hq
    clear hq
    go_wp2_with fail
    exact HQ.out
  · exact ⟨rfl, hq⟩
  · exact absurd hq (hno _)
end WirH
end Go.Proofs.Ythcemghamdmjmaa

namespace Go.Proofs.Ythcemghamdmjmaa
namespace WirI
open Go.RowKit
open BlkM WirM WirS WirA WirB WirG WirH

set_option maxRecDepth 8000 in
theorem halted_any (w : World) (R : Nat) (a : Option Addr) (c : Nat) (bs : List Int) (at' : Nat) (fe fa code fr : Int) (h : RSt w R a c bs at' fe fa) :
    Calls Try.prog 201 #[.pointer (some ⟨R, 0, none⟩), .int .i64 fr, .iface 238 (.agg #[.int .i64 code])] w fun e w' => e = .returned (.tuple #[]) ∧ RSt w' R a c bs at' code fr ∧ Fr (Xr R) w w' := by
  have c3 : w.cell? ⟨R, 3, none⟩ = some (.int .i64 fe) := by rw [h.cell.cell]; rfl
  have c4 : w.cell? ⟨R, 4, none⟩ = some (.int .i64 fa) := by rw [h.cell.cell]; rfl
  have f3 : w.frozen? ⟨R, 3, none⟩ = false := h.cell.frozen 3
  have f4 : w.frozen? ⟨R, 4, none⟩ = false := h.cell.frozen 4
  have HF := hide (show Fr (Xr R) w ((w.setCell ⟨R, 3, none⟩ (.int .i64 code)).setCell ⟨R, 4, none⟩ (.int .i64 fr)) from ((Fr.refl (Xr R) w).setCell R 3 _ (fun _ => rfl)).setCell R 4 _ (fun _ => rfl))
  have HR := hide (show RSt ((w.setCell ⟨R, 3, none⟩ (.int .i64 code)).setCell ⟨R, 4, none⟩ (.int .i64 fr)) R a c bs at' code fr from
    ⟨(h.cell.setCell 3 _).setCell 4 _, h.bin.fr (X := Xr R) HF.out (fun k hk hx => h.off (by rw [hk, hx])), h.off, fun k hk => by simpa using h.olt k hk, h.le, h.small, h.bytes⟩)
  have hta : ∀ W : World, (Instr.typeAssert (.iface 238 (.agg #[.int .i64 code])) 20 238 false).run Try.prog W = .ok (.agg #[.int .i64 code]) W := fun W => by kernel_rfl
  have hfd : ∀ W : World, (Instr.field 238 (.agg #[.int .i64 code]) 0).run Try.prog W = .ok (.int .i64 code) W := fun W => by kernel_rfl
  clear h
  go_enter Try.func201, Try.ntmps201
  go_wp2
  first | go_end0 | refine bodyPost_ret (results_none rfl _ _ _) rfl ?_
  exact ⟨rfl, HR.out, HF.out⟩
/-- What an element is: an error, or what holds of its value, and the place behind it. -/
abbrev Out := Sum Int ((Value → World → Prop) × Nat)
def ElemPost (W : World) (R : Nat) (a : Option Addr) (c : Nat) (bs : List Int) (out : Out) (e : Ending) (w' : World) : Prop :=
  match out with
  | .inl code => Bad W R a c bs code e w'
  | .inr x => ∃ v, e = .returned v ∧ x.1 v w' ∧ RSt w' R a c bs x.2 0 0 ∧ Fr (Xr R) W w'
def ReadPost (w : World) (R : Nat) (a : Option Addr) (c : Nat) (bs : List Int) (at' : Nat) (zero : Value) (out : Out) (e : Ending) (w' : World) : Prop :=
  match out with
  | .inl code => e = .returned zero ∧ (∃ p, RSt w' R a c bs p code at') ∧ Fr (Xr R) w w'
  | .inr x => ∃ v, e = .returned v ∧ x.1 v w' ∧ RSt w' R a c bs x.2 0 0 ∧ Fr (Xr R) w w'
def hp2 (c : Int) : List PanicEntry := [{ v := .iface 238 (.agg #[.int .i64 c]), recovered := true }]
theorem idle_word (p q : Addr) (w : World) :
    CallsD Try.prog 210 #[.pointer (some p), .pointer (some q)] .returning w fun e u' w' => e = .returned (.tuple #[]) ∧ u' = .returning ∧ w' = w := by
  refine callsD_of_wpS Try.func210 rfl fun c₀ cs hu => ?_
  apply wpS_seq
  apply wpS_region
  simp [wpOpsS, go_sem, recoverD, hu, Try.ntmps210, Exit.thenS]
  refine wpS_of_wp ?_
  go_wp2
  cases c₀
  simp_all [bodyPostS, results, Try.results210]
set_option maxRecDepth 8000 in
set_option maxHeartbeats 1000000 in
theorem catch_word (p q : Nat) (w : World) (R : Nat) (a : Option Addr) (c : Nat) (bs : List Int) (at' : Nat) (fe fa code fr : Int) (h : RSt w R a c bs at' fe fa)
    (hp0 : w.cell? ⟨p, 0, none⟩ = some (.pointer (some ⟨R, 0, none⟩))) (hq0 : w.cell? ⟨q, 0, none⟩ = some (.int .i64 fr)) :
    CallsD Try.prog 210 #[.pointer (some ⟨p, 0, none⟩), .pointer (some ⟨q, 0, none⟩)] (.panicking (hp code)) w fun e u' w' => e = .returned (.tuple #[]) ∧ u' = .panicking (hp2 code) ∧ RSt w' R a c bs at' code fr ∧ Fr (Xr R) w w' := by
  have H := hide (halted_any w R a c bs at' fe fa code fr h)
  clear h
  refine callsD_of_wpS Try.func210 rfl fun c₀ cs hu => ?_
  apply wpS_seq
  apply wpS_region
  simp [wpOpsS, go_sem, recoverD, hu, hp, Try.ntmps210, Exit.thenS]
  refine wpS_of_wp ?_
  go_wp2_with ((go_at_call 201; refine (H.out).mono ?_; rintro e w1 ⟨rfl, h2⟩; have HH := hide h2; clear h2))
  exact ⟨rfl, _, rfl, _, by simp [results, Try.results210], rfl, rfl, HH.out⟩
theorem read_none_word (w : World) (p : Option Addr) (fv : Value) (h : NoR w p) (hp : ∀ S, p = some ⟨S, 0, none⟩ → S < w.heap.size) : Calls Try.prog 142 #[.pointer p, fv] w fun e w' => e = .returned (.int .u64 0) ∧ Below w.heap.size w w' := by
  have H := hide (fun W (hb : Below w.heap.size w W) => reads_none W p (by
    rcases h with rfl | ⟨S, rfl, hc⟩
    · exact .inl rfl
    · exact .inr ⟨S, rfl, (hb.cell (hp S rfl)).trans hc⟩))
  have hmf : ∀ (fn : Fn) (first cap : Array Value) (w : World), (Instr.makeFunc fn first cap).run Try.prog w = .ok (.func fn first cap) w := fun _ _ _ _ => rfl
  have hb := hide (show Below w.heap.size w (w.alloc (.cells #[.pointer p] 48)) from Below.alloc (Below.refl _ _) (Nat.le_refl _) _)
  clear h hp
  go_enter_defers Try.func142, Try.ntmps142
  go_wp2_with ((go_at_call 123; refine (H.out _ hb.out).mono ?_; rintro e w1 ⟨rfl, rfl⟩))
  exact ⟨_, results_tmp rfl _ _ _, rfl, hb.out⟩
theorem read_fault_word (w : World) (R : Nat) (a : Option Addr) (c : Nat) (bs : List Int) (at' : Nat) (fe fa : Int) (fv : Value) (h : RSt w R a c bs at' fe fa) (he : fe ≠ 0) : Calls Try.prog 142 #[.pointer (some ⟨R, 0, none⟩), fv] w fun e w' => e = .returned (.int .u64 0) ∧ Below w.heap.size w w' := by
  have H := hide (fun W (hb : Below w.heap.size w W) => reads_any W R a c bs at' fe fa (h.below hb))
  have e0 : (fe == 0) = false := by simpa using he
  have hb := hide (show Below w.heap.size w (w.alloc (.cells #[.pointer (some ⟨R, 0, none⟩)] 48)) from Below.alloc (Below.refl _ _) (Nat.le_refl _) _)
  rw [e0] at H
  clear h he e0
  go_enter_defers Try.func142, Try.ntmps142
  go_wp2_with ((go_at_call 123; refine (H.out _ hb.out).mono ?_; rintro e w1 ⟨rfl, rfl⟩))
  exact ⟨_, results_tmp rfl _ _ _, rfl, hb.out⟩
set_option maxRecDepth 8000 in
set_option maxHeartbeats 1000000 in
theorem read_word (w : World) (R : Nat) (a : Option Addr) (c : Nat) (bs : List Int) (at' : Nat) (X : Value) (out : Out) (h : RSt w R a c bs at' 0 0)
    (hG : ∀ W, Below w.heap.size w W → RSt W R a c bs at' 0 0 → Calls Try.prog 143 #[X] W (ElemPost W R a c bs out)) :
    Calls Try.prog 142 #[.pointer (some ⟨R, 0, none⟩), .func (.func 143) #[] #[X]] w (ReadPost w R a c bs at' (.int .u64 0) out) := by
  have hlt := h.lt
  have H := hide (fun W (hb : Below w.heap.size w W) => reads_any W R a c bs at' 0 0 (h.below hb))
  have hb := hide (show Below w.heap.size w (w.alloc (.cells #[.pointer (some ⟨R, 0, none⟩)] 48)) from Below.alloc (Below.refl _ _) (Nat.le_refl _) _)
  have c2 : w.cell? ⟨R, 2, none⟩ = some (.int .i64 (at' : Int)) := by rw [h.cell.cell]; rfl
  obtain ⟨W4, e4⟩ : ∃ X, X = (w.alloc (.cells #[.pointer (some ⟨R, 0, none⟩)] 48)).alloc (.cells #[.int .i64 (at' : Int)] 3) := ⟨_, rfl⟩
  have hb4 : Below w.heap.size w W4 := by rw [e4]; exact Below.alloc (Below.alloc (Below.refl _ _) (Nat.le_refl _) _) (by simp) _
  have hA1 : At W4 w.heap.size 48 [.pointer (some ⟨R, 0, none⟩)] := by rw [e4]; exact At.alloc (At.new w _ [_]) _
  have hA2 : At W4 (w.heap.size + 1) 3 [.int .i64 (at' : Int)] := by
    rw [e4]
    have := At.new (w.alloc (.cells #[.pointer (some ⟨R, 0, none⟩)] 48)) 3 [.int .i64 (at' : Int)]
    rw [World.size_alloc] at this
    exact this
  have hmf : ∀ (fn : Fn) (first cap : Array Value) (w : World), (Instr.makeFunc fn first cap).run Try.prog w = .ok (.func fn first cap) w := fun _ _ _ _ => rfl
  have C := hide (hG W4 hb4 (h.below hb4))
  have E4 := hide e4
  have HB4 := hide hb4
  have HA1 := hide hA1
  have HA2 := hide hA2
  clear hG h e4 hb4 hA1 hA2
  go_enter_defers Try.func142, Try.ntmps142
  go_upto_region 5 with ((go_at_call 123; refine (H.out _ hb.out).mono ?_; rintro e w1 ⟨rfl, rfl⟩))
  rw [← E4.out]
  cases out with
  | inl code =>
    go_wp2_with ((go_at_call 143; refine (C.out).mono ?_; rintro e w1 ⟨rfl, ⟨p, hr⟩, hf⟩))
    have k1 : w1.cell? ⟨w.heap.size, 0, none⟩ = some (.pointer (some ⟨R, 0, none⟩)) := (hf.cell (p := ⟨w.heap.size, 0, none⟩) HA1.out.lt (fun h => by have : w.heap.size = R := h; omega)).trans (HA1.out.cell 0)
    have k2 : w1.cell? ⟨w.heap.size + 1, 0, none⟩ = some (.int .i64 (at' : Int)) := (hf.cell (p := ⟨w.heap.size + 1, 0, none⟩) HA2.out.lt (fun h => by have : w.heap.size + 1 = R := h; omega)).trans (HA2.out.cell 0)
    refine leaves_cons (f := 210) (args := #[.pointer (some ⟨w.heap.size, 0, none⟩), .pointer (some ⟨w.heap.size + 1, 0, none⟩)]) (by simp) (by simp [go_sem]) ?_
    refine (catch_word w.heap.size (w.heap.size + 1) w1 R a c bs p 0 0 code at' hr k1 k2).mono ?_
    rintro e u' w'' ⟨rfl, rfl, hR, hF⟩
    exact ⟨_, results_tmp rfl _ _ _, rfl, ⟨p, hR⟩, ((Fr.of_below HB4.out).trans hf).trans hF⟩
  | inr x =>
    go_wp2_with ((go_at_call 143; refine (C.out).mono ?_; rintro e w1 ⟨v, rfl, hv, hr, hf⟩))
    refine leaves_cons (f := 210) (args := #[.pointer (some ⟨w.heap.size, 0, none⟩), .pointer (some ⟨w.heap.size + 1, 0, none⟩)]) (by simp) (by simp [go_sem]) ?_
    refine (idle_word _ _ w1).mono ?_
    rintro e u' w'' ⟨rfl, rfl, rfl⟩
    exact ⟨_, results_tmp rfl _ _ _, v, rfl, hv, hr, (Fr.of_below HB4.out).trans hf⟩
theorem idle_int (p q : Addr) (w : World) :
    CallsD Try.prog 200 #[.pointer (some p), .pointer (some q)] .returning w fun e u' w' => e = .returned (.tuple #[]) ∧ u' = .returning ∧ w' = w := by
  refine callsD_of_wpS Try.func200 rfl fun c₀ cs hu => ?_
  apply wpS_seq
  apply wpS_region
  simp [wpOpsS, go_sem, recoverD, hu, Try.ntmps200, Exit.thenS]
  refine wpS_of_wp ?_
  go_wp2
  cases c₀
  simp_all [bodyPostS, results, Try.results200]
set_option maxRecDepth 8000 in
set_option maxHeartbeats 1000000 in
theorem catch_int (p q : Nat) (w : World) (R : Nat) (a : Option Addr) (c : Nat) (bs : List Int) (at' : Nat) (fe fa code fr : Int) (h : RSt w R a c bs at' fe fa)
    (hp0 : w.cell? ⟨p, 0, none⟩ = some (.pointer (some ⟨R, 0, none⟩))) (hq0 : w.cell? ⟨q, 0, none⟩ = some (.int .i64 fr)) :
    CallsD Try.prog 200 #[.pointer (some ⟨p, 0, none⟩), .pointer (some ⟨q, 0, none⟩)] (.panicking (hp code)) w fun e u' w' => e = .returned (.tuple #[]) ∧ u' = .panicking (hp2 code) ∧ RSt w' R a c bs at' code fr ∧ Fr (Xr R) w w' := by
  have H := hide (halted_any w R a c bs at' fe fa code fr h)
  clear h
  refine callsD_of_wpS Try.func200 rfl fun c₀ cs hu => ?_
  apply wpS_seq
  apply wpS_region
  simp [wpOpsS, go_sem, recoverD, hu, hp, Try.ntmps200, Exit.thenS]
  refine wpS_of_wp ?_
  go_wp2_with ((go_at_call 201; refine (H.out).mono ?_; rintro e w1 ⟨rfl, h2⟩; have HH := hide h2; clear h2))
  exact ⟨rfl, _, rfl, _, by simp [results, Try.results200], rfl, rfl, HH.out⟩
theorem read_none_int (w : World) (p : Option Addr) (fv : Value) (h : NoR w p) (hp : ∀ S, p = some ⟨S, 0, none⟩ → S < w.heap.size) : Calls Try.prog 125 #[.pointer p, fv] w fun e w' => e = .returned (.int .i64 0) ∧ Below w.heap.size w w' := by
  have H := hide (fun W (hb : Below w.heap.size w W) => reads_none W p (by
    rcases h with rfl | ⟨S, rfl, hc⟩
    · exact .inl rfl
    · exact .inr ⟨S, rfl, (hb.cell (hp S rfl)).trans hc⟩))
  have hmf : ∀ (fn : Fn) (first cap : Array Value) (w : World), (Instr.makeFunc fn first cap).run Try.prog w = .ok (.func fn first cap) w := fun _ _ _ _ => rfl
  have hb := hide (show Below w.heap.size w (w.alloc (.cells #[.pointer p] 48)) from Below.alloc (Below.refl _ _) (Nat.le_refl _) _)
  clear h hp
  go_enter_defers Try.func125, Try.ntmps125
  go_wp2_with ((go_at_call 123; refine (H.out _ hb.out).mono ?_; rintro e w1 ⟨rfl, rfl⟩))
  exact ⟨_, results_tmp rfl _ _ _, rfl, hb.out⟩
theorem read_fault_int (w : World) (R : Nat) (a : Option Addr) (c : Nat) (bs : List Int) (at' : Nat) (fe fa : Int) (fv : Value) (h : RSt w R a c bs at' fe fa) (he : fe ≠ 0) : Calls Try.prog 125 #[.pointer (some ⟨R, 0, none⟩), fv] w fun e w' => e = .returned (.int .i64 0) ∧ Below w.heap.size w w' := by
  have H := hide (fun W (hb : Below w.heap.size w W) => reads_any W R a c bs at' fe fa (h.below hb))
  have e0 : (fe == 0) = false := by simpa using he
  have hb := hide (show Below w.heap.size w (w.alloc (.cells #[.pointer (some ⟨R, 0, none⟩)] 48)) from Below.alloc (Below.refl _ _) (Nat.le_refl _) _)
  rw [e0] at H
  clear h he e0
  go_enter_defers Try.func125, Try.ntmps125
  go_wp2_with ((go_at_call 123; refine (H.out _ hb.out).mono ?_; rintro e w1 ⟨rfl, rfl⟩))
  exact ⟨_, results_tmp rfl _ _ _, rfl, hb.out⟩
set_option maxRecDepth 8000 in
set_option maxHeartbeats 1000000 in
theorem read_int (w : World) (R : Nat) (a : Option Addr) (c : Nat) (bs : List Int) (at' : Nat) (X : Value) (out : Out) (h : RSt w R a c bs at' 0 0)
    (hG : ∀ W, Below w.heap.size w W → RSt W R a c bs at' 0 0 → Calls Try.prog 126 #[X] W (ElemPost W R a c bs out)) :
    Calls Try.prog 125 #[.pointer (some ⟨R, 0, none⟩), .func (.func 126) #[X] #[]] w (ReadPost w R a c bs at' (.int .i64 0) out) := by
  have hlt := h.lt
  have H := hide (fun W (hb : Below w.heap.size w W) => reads_any W R a c bs at' 0 0 (h.below hb))
  have hb := hide (show Below w.heap.size w (w.alloc (.cells #[.pointer (some ⟨R, 0, none⟩)] 48)) from Below.alloc (Below.refl _ _) (Nat.le_refl _) _)
  have c2 : w.cell? ⟨R, 2, none⟩ = some (.int .i64 (at' : Int)) := by rw [h.cell.cell]; rfl
  obtain ⟨W4, e4⟩ : ∃ X, X = (w.alloc (.cells #[.pointer (some ⟨R, 0, none⟩)] 48)).alloc (.cells #[.int .i64 (at' : Int)] 3) := ⟨_, rfl⟩
  have hb4 : Below w.heap.size w W4 := by rw [e4]; exact Below.alloc (Below.alloc (Below.refl _ _) (Nat.le_refl _) _) (by simp) _
  have hA1 : At W4 w.heap.size 48 [.pointer (some ⟨R, 0, none⟩)] := by rw [e4]; exact At.alloc (At.new w _ [_]) _
  have hA2 : At W4 (w.heap.size + 1) 3 [.int .i64 (at' : Int)] := by
    rw [e4]
    have := At.new (w.alloc (.cells #[.pointer (some ⟨R, 0, none⟩)] 48)) 3 [.int .i64 (at' : Int)]
    rw [World.size_alloc] at this
    exact this
  have hmf : ∀ (fn : Fn) (first cap : Array Value) (w : World), (Instr.makeFunc fn first cap).run Try.prog w = .ok (.func fn first cap) w := fun _ _ _ _ => rfl
  have C := hide (hG W4 hb4 (h.below hb4))
  have E4 := hide e4
  have HB4 := hide hb4
  have HA1 := hide hA1
  have HA2 := hide hA2
  clear hG h e4 hb4 hA1 hA2
  go_enter_defers Try.func125, Try.ntmps125
  go_upto_region 5 with ((go_at_call 123; refine (H.out _ hb.out).mono ?_; rintro e w1 ⟨rfl, rfl⟩))
  rw [← E4.out]
  cases out with
  | inl code =>
    go_wp2_with ((go_at_call 126; refine (C.out).mono ?_; rintro e w1 ⟨rfl, ⟨p, hr⟩, hf⟩))
    have k1 : w1.cell? ⟨w.heap.size, 0, none⟩ = some (.pointer (some ⟨R, 0, none⟩)) := (hf.cell (p := ⟨w.heap.size, 0, none⟩) HA1.out.lt (fun h => by have : w.heap.size = R := h; omega)).trans (HA1.out.cell 0)
    have k2 : w1.cell? ⟨w.heap.size + 1, 0, none⟩ = some (.int .i64 (at' : Int)) := (hf.cell (p := ⟨w.heap.size + 1, 0, none⟩) HA2.out.lt (fun h => by have : w.heap.size + 1 = R := h; omega)).trans (HA2.out.cell 0)
    refine leaves_cons (f := 200) (args := #[.pointer (some ⟨w.heap.size, 0, none⟩), .pointer (some ⟨w.heap.size + 1, 0, none⟩)]) (by simp) (by simp [go_sem]) ?_
    refine (catch_int w.heap.size (w.heap.size + 1) w1 R a c bs p 0 0 code at' hr k1 k2).mono ?_
    rintro e u' w'' ⟨rfl, rfl, hR, hF⟩
    exact ⟨_, results_tmp rfl _ _ _, rfl, ⟨p, hR⟩, ((Fr.of_below HB4.out).trans hf).trans hF⟩
  | inr x =>
    go_wp2_with ((go_at_call 126; refine (C.out).mono ?_; rintro e w1 ⟨v, rfl, hv, hr, hf⟩))
    refine leaves_cons (f := 200) (args := #[.pointer (some ⟨w.heap.size, 0, none⟩), .pointer (some ⟨w.heap.size + 1, 0, none⟩)]) (by simp) (by simp [go_sem]) ?_
    refine (idle_int _ _ w1).mono ?_
    rintro e u' w'' ⟨rfl, rfl, rfl⟩
    exact ⟨_, results_tmp rfl _ _ _, v, rfl, hv, hr, (Fr.of_below HB4.out).trans hf⟩
theorem idle_bool (p q : Addr) (w : World) :
    CallsD Try.prog 213 #[.pointer (some p), .pointer (some q)] .returning w fun e u' w' => e = .returned (.tuple #[]) ∧ u' = .returning ∧ w' = w := by
  refine callsD_of_wpS Try.func213 rfl fun c₀ cs hu => ?_
  apply wpS_seq
  apply wpS_region
  simp [wpOpsS, go_sem, recoverD, hu, Try.ntmps213, Exit.thenS]
  refine wpS_of_wp ?_
  go_wp2
  cases c₀
  simp_all [bodyPostS, results, Try.results213]
set_option maxRecDepth 8000 in
set_option maxHeartbeats 1000000 in
theorem catch_bool (p q : Nat) (w : World) (R : Nat) (a : Option Addr) (c : Nat) (bs : List Int) (at' : Nat) (fe fa code fr : Int) (h : RSt w R a c bs at' fe fa)
    (hp0 : w.cell? ⟨p, 0, none⟩ = some (.pointer (some ⟨R, 0, none⟩))) (hq0 : w.cell? ⟨q, 0, none⟩ = some (.int .i64 fr)) :
    CallsD Try.prog 213 #[.pointer (some ⟨p, 0, none⟩), .pointer (some ⟨q, 0, none⟩)] (.panicking (hp code)) w fun e u' w' => e = .returned (.tuple #[]) ∧ u' = .panicking (hp2 code) ∧ RSt w' R a c bs at' code fr ∧ Fr (Xr R) w w' := by
  have H := hide (halted_any w R a c bs at' fe fa code fr h)
  clear h
  refine callsD_of_wpS Try.func213 rfl fun c₀ cs hu => ?_
  apply wpS_seq
  apply wpS_region
  simp [wpOpsS, go_sem, recoverD, hu, hp, Try.ntmps213, Exit.thenS]
  refine wpS_of_wp ?_
  go_wp2_with ((go_at_call 201; refine (H.out).mono ?_; rintro e w1 ⟨rfl, h2⟩; have HH := hide h2; clear h2))
  exact ⟨rfl, _, rfl, _, by simp [results, Try.results213], rfl, rfl, HH.out⟩
theorem read_none_bool (w : World) (p : Option Addr) (fv : Value) (h : NoR w p) (hp : ∀ S, p = some ⟨S, 0, none⟩ → S < w.heap.size) : Calls Try.prog 150 #[.pointer p, fv] w fun e w' => e = .returned (.bool false) ∧ Below w.heap.size w w' := by
  have H := hide (fun W (hb : Below w.heap.size w W) => reads_none W p (by
    rcases h with rfl | ⟨S, rfl, hc⟩
    · exact .inl rfl
    · exact .inr ⟨S, rfl, (hb.cell (hp S rfl)).trans hc⟩))
  have hmf : ∀ (fn : Fn) (first cap : Array Value) (w : World), (Instr.makeFunc fn first cap).run Try.prog w = .ok (.func fn first cap) w := fun _ _ _ _ => rfl
  have hb := hide (show Below w.heap.size w (w.alloc (.cells #[.pointer p] 48)) from Below.alloc (Below.refl _ _) (Nat.le_refl _) _)
  clear h hp
  go_enter_defers Try.func150, Try.ntmps150
  go_wp2_with ((go_at_call 123; refine (H.out _ hb.out).mono ?_; rintro e w1 ⟨rfl, rfl⟩))
  exact ⟨_, results_tmp rfl _ _ _, rfl, hb.out⟩
theorem read_fault_bool (w : World) (R : Nat) (a : Option Addr) (c : Nat) (bs : List Int) (at' : Nat) (fe fa : Int) (fv : Value) (h : RSt w R a c bs at' fe fa) (he : fe ≠ 0) : Calls Try.prog 150 #[.pointer (some ⟨R, 0, none⟩), fv] w fun e w' => e = .returned (.bool false) ∧ Below w.heap.size w w' := by
  have H := hide (fun W (hb : Below w.heap.size w W) => reads_any W R a c bs at' fe fa (h.below hb))
  have e0 : (fe == 0) = false := by simpa using he
  have hb := hide (show Below w.heap.size w (w.alloc (.cells #[.pointer (some ⟨R, 0, none⟩)] 48)) from Below.alloc (Below.refl _ _) (Nat.le_refl _) _)
  rw [e0] at H
  clear h he e0
  go_enter_defers Try.func150, Try.ntmps150
  go_wp2_with ((go_at_call 123; refine (H.out _ hb.out).mono ?_; rintro e w1 ⟨rfl, rfl⟩))
  exact ⟨_, results_tmp rfl _ _ _, rfl, hb.out⟩
set_option maxRecDepth 8000 in
set_option maxHeartbeats 1000000 in
theorem read_bool (w : World) (R : Nat) (a : Option Addr) (c : Nat) (bs : List Int) (at' : Nat) (X : Value) (out : Out) (h : RSt w R a c bs at' 0 0)
    (hG : ∀ W, Below w.heap.size w W → RSt W R a c bs at' 0 0 → Calls Try.prog 151 #[X] W (ElemPost W R a c bs out)) :
    Calls Try.prog 150 #[.pointer (some ⟨R, 0, none⟩), .func (.func 151) #[] #[X]] w (ReadPost w R a c bs at' (.bool false) out) := by
  have hlt := h.lt
  have H := hide (fun W (hb : Below w.heap.size w W) => reads_any W R a c bs at' 0 0 (h.below hb))
  have hb := hide (show Below w.heap.size w (w.alloc (.cells #[.pointer (some ⟨R, 0, none⟩)] 48)) from Below.alloc (Below.refl _ _) (Nat.le_refl _) _)
  have c2 : w.cell? ⟨R, 2, none⟩ = some (.int .i64 (at' : Int)) := by rw [h.cell.cell]; rfl
  obtain ⟨W4, e4⟩ : ∃ X, X = (w.alloc (.cells #[.pointer (some ⟨R, 0, none⟩)] 48)).alloc (.cells #[.int .i64 (at' : Int)] 3) := ⟨_, rfl⟩
  have hb4 : Below w.heap.size w W4 := by rw [e4]; exact Below.alloc (Below.alloc (Below.refl _ _) (Nat.le_refl _) _) (by simp) _
  have hA1 : At W4 w.heap.size 48 [.pointer (some ⟨R, 0, none⟩)] := by rw [e4]; exact At.alloc (At.new w _ [_]) _
  have hA2 : At W4 (w.heap.size + 1) 3 [.int .i64 (at' : Int)] := by
    rw [e4]
    have := At.new (w.alloc (.cells #[.pointer (some ⟨R, 0, none⟩)] 48)) 3 [.int .i64 (at' : Int)]
    rw [World.size_alloc] at this
    exact this
  have hmf : ∀ (fn : Fn) (first cap : Array Value) (w : World), (Instr.makeFunc fn first cap).run Try.prog w = .ok (.func fn first cap) w := fun _ _ _ _ => rfl
  have C := hide (hG W4 hb4 (h.below hb4))
  have E4 := hide e4
  have HB4 := hide hb4
  have HA1 := hide hA1
  have HA2 := hide hA2
  clear hG h e4 hb4 hA1 hA2
  go_enter_defers Try.func150, Try.ntmps150
  go_upto_region 5 with ((go_at_call 123; refine (H.out _ hb.out).mono ?_; rintro e w1 ⟨rfl, rfl⟩))
  rw [← E4.out]
  cases out with
  | inl code =>
    go_wp2_with ((go_at_call 151; refine (C.out).mono ?_; rintro e w1 ⟨rfl, ⟨p, hr⟩, hf⟩))
    have k1 : w1.cell? ⟨w.heap.size, 0, none⟩ = some (.pointer (some ⟨R, 0, none⟩)) := (hf.cell (p := ⟨w.heap.size, 0, none⟩) HA1.out.lt (fun h => by have : w.heap.size = R := h; omega)).trans (HA1.out.cell 0)
    have k2 : w1.cell? ⟨w.heap.size + 1, 0, none⟩ = some (.int .i64 (at' : Int)) := (hf.cell (p := ⟨w.heap.size + 1, 0, none⟩) HA2.out.lt (fun h => by have : w.heap.size + 1 = R := h; omega)).trans (HA2.out.cell 0)
    refine leaves_cons (f := 213) (args := #[.pointer (some ⟨w.heap.size, 0, none⟩), .pointer (some ⟨w.heap.size + 1, 0, none⟩)]) (by simp) (by simp [go_sem]) ?_
    refine (catch_bool w.heap.size (w.heap.size + 1) w1 R a c bs p 0 0 code at' hr k1 k2).mono ?_
    rintro e u' w'' ⟨rfl, rfl, hR, hF⟩
    exact ⟨_, results_tmp rfl _ _ _, rfl, ⟨p, hR⟩, ((Fr.of_below HB4.out).trans hf).trans hF⟩
  | inr x =>
    go_wp2_with ((go_at_call 151; refine (C.out).mono ?_; rintro e w1 ⟨v, rfl, hv, hr, hf⟩))
    refine leaves_cons (f := 213) (args := #[.pointer (some ⟨w.heap.size, 0, none⟩), .pointer (some ⟨w.heap.size + 1, 0, none⟩)]) (by simp) (by simp [go_sem]) ?_
    refine (idle_bool _ _ w1).mono ?_
    rintro e u' w'' ⟨rfl, rfl, rfl⟩
    exact ⟨_, results_tmp rfl _ _ _, v, rfl, hv, hr, (Fr.of_below HB4.out).trans hf⟩
theorem idle_pace (p q : Addr) (w : World) :
    CallsD Try.prog 211 #[.pointer (some p), .pointer (some q)] .returning w fun e u' w' => e = .returned (.tuple #[]) ∧ u' = .returning ∧ w' = w := by
  refine callsD_of_wpS Try.func211 rfl fun c₀ cs hu => ?_
  apply wpS_seq
  apply wpS_region
  simp [wpOpsS, go_sem, recoverD, hu, Try.ntmps211, Exit.thenS]
  refine wpS_of_wp ?_
  go_wp2
  cases c₀
  simp_all [bodyPostS, results, Try.results211]
set_option maxRecDepth 8000 in
set_option maxHeartbeats 1000000 in
theorem catch_pace (p q : Nat) (w : World) (R : Nat) (a : Option Addr) (c : Nat) (bs : List Int) (at' : Nat) (fe fa code fr : Int) (h : RSt w R a c bs at' fe fa)
    (hp0 : w.cell? ⟨p, 0, none⟩ = some (.pointer (some ⟨R, 0, none⟩))) (hq0 : w.cell? ⟨q, 0, none⟩ = some (.int .i64 fr)) :
    CallsD Try.prog 211 #[.pointer (some ⟨p, 0, none⟩), .pointer (some ⟨q, 0, none⟩)] (.panicking (hp code)) w fun e u' w' => e = .returned (.tuple #[]) ∧ u' = .panicking (hp2 code) ∧ RSt w' R a c bs at' code fr ∧ Fr (Xr R) w w' := by
  have H := hide (halted_any w R a c bs at' fe fa code fr h)
  clear h
  refine callsD_of_wpS Try.func211 rfl fun c₀ cs hu => ?_
  apply wpS_seq
  apply wpS_region
  simp [wpOpsS, go_sem, recoverD, hu, hp, Try.ntmps211, Exit.thenS]
  refine wpS_of_wp ?_
  go_wp2_with ((go_at_call 201; refine (H.out).mono ?_; rintro e w1 ⟨rfl, h2⟩; have HH := hide h2; clear h2))
  exact ⟨rfl, _, rfl, _, by simp [results, Try.results211], rfl, rfl, HH.out⟩
theorem read_none_pace (w : World) (p : Option Addr) (fv : Value) (h : NoR w p) (hp : ∀ S, p = some ⟨S, 0, none⟩ → S < w.heap.size) : Calls Try.prog 146 #[.pointer p, fv] w fun e w' => e = .returned (.float .f64 0) ∧ Below w.heap.size w w' := by
  have H := hide (fun W (hb : Below w.heap.size w W) => reads_none W p (by
    rcases h with rfl | ⟨S, rfl, hc⟩
    · exact .inl rfl
    · exact .inr ⟨S, rfl, (hb.cell (hp S rfl)).trans hc⟩))
  have hmf : ∀ (fn : Fn) (first cap : Array Value) (w : World), (Instr.makeFunc fn first cap).run Try.prog w = .ok (.func fn first cap) w := fun _ _ _ _ => rfl
  have hb := hide (show Below w.heap.size w (w.alloc (.cells #[.pointer p] 48)) from Below.alloc (Below.refl _ _) (Nat.le_refl _) _)
  clear h hp
  go_enter_defers Try.func146, Try.ntmps146
  go_wp2_with ((go_at_call 123; refine (H.out _ hb.out).mono ?_; rintro e w1 ⟨rfl, rfl⟩))
  exact ⟨_, results_tmp rfl _ _ _, rfl, hb.out⟩
theorem read_fault_pace (w : World) (R : Nat) (a : Option Addr) (c : Nat) (bs : List Int) (at' : Nat) (fe fa : Int) (fv : Value) (h : RSt w R a c bs at' fe fa) (he : fe ≠ 0) : Calls Try.prog 146 #[.pointer (some ⟨R, 0, none⟩), fv] w fun e w' => e = .returned (.float .f64 0) ∧ Below w.heap.size w w' := by
  have H := hide (fun W (hb : Below w.heap.size w W) => reads_any W R a c bs at' fe fa (h.below hb))
  have e0 : (fe == 0) = false := by simpa using he
  have hb := hide (show Below w.heap.size w (w.alloc (.cells #[.pointer (some ⟨R, 0, none⟩)] 48)) from Below.alloc (Below.refl _ _) (Nat.le_refl _) _)
  rw [e0] at H
  clear h he e0
  go_enter_defers Try.func146, Try.ntmps146
  go_wp2_with ((go_at_call 123; refine (H.out _ hb.out).mono ?_; rintro e w1 ⟨rfl, rfl⟩))
  exact ⟨_, results_tmp rfl _ _ _, rfl, hb.out⟩
set_option maxRecDepth 8000 in
set_option maxHeartbeats 1000000 in
theorem read_pace (w : World) (R : Nat) (a : Option Addr) (c : Nat) (bs : List Int) (at' : Nat) (X : Value) (out : Out) (h : RSt w R a c bs at' 0 0)
    (hG : ∀ W, Below w.heap.size w W → RSt W R a c bs at' 0 0 → Calls Try.prog 147 #[X] W (ElemPost W R a c bs out)) :
    Calls Try.prog 146 #[.pointer (some ⟨R, 0, none⟩), .func (.func 147) #[] #[X]] w (ReadPost w R a c bs at' (.float .f64 0) out) := by
  have hlt := h.lt
  have H := hide (fun W (hb : Below w.heap.size w W) => reads_any W R a c bs at' 0 0 (h.below hb))
  have hb := hide (show Below w.heap.size w (w.alloc (.cells #[.pointer (some ⟨R, 0, none⟩)] 48)) from Below.alloc (Below.refl _ _) (Nat.le_refl _) _)
  have c2 : w.cell? ⟨R, 2, none⟩ = some (.int .i64 (at' : Int)) := by rw [h.cell.cell]; rfl
  obtain ⟨W4, e4⟩ : ∃ X, X = (w.alloc (.cells #[.pointer (some ⟨R, 0, none⟩)] 48)).alloc (.cells #[.int .i64 (at' : Int)] 3) := ⟨_, rfl⟩
  have hb4 : Below w.heap.size w W4 := by rw [e4]; exact Below.alloc (Below.alloc (Below.refl _ _) (Nat.le_refl _) _) (by simp) _
  have hA1 : At W4 w.heap.size 48 [.pointer (some ⟨R, 0, none⟩)] := by rw [e4]; exact At.alloc (At.new w _ [_]) _
  have hA2 : At W4 (w.heap.size + 1) 3 [.int .i64 (at' : Int)] := by
    rw [e4]
    have := At.new (w.alloc (.cells #[.pointer (some ⟨R, 0, none⟩)] 48)) 3 [.int .i64 (at' : Int)]
    rw [World.size_alloc] at this
    exact this
  have hmf : ∀ (fn : Fn) (first cap : Array Value) (w : World), (Instr.makeFunc fn first cap).run Try.prog w = .ok (.func fn first cap) w := fun _ _ _ _ => rfl
  have C := hide (hG W4 hb4 (h.below hb4))
  have E4 := hide e4
  have HB4 := hide hb4
  have HA1 := hide hA1
  have HA2 := hide hA2
  clear hG h e4 hb4 hA1 hA2
  go_enter_defers Try.func146, Try.ntmps146
  go_upto_region 5 with ((go_at_call 123; refine (H.out _ hb.out).mono ?_; rintro e w1 ⟨rfl, rfl⟩))
  rw [← E4.out]
  cases out with
  | inl code =>
    go_wp2_with ((go_at_call 147; refine (C.out).mono ?_; rintro e w1 ⟨rfl, ⟨p, hr⟩, hf⟩))
    have k1 : w1.cell? ⟨w.heap.size, 0, none⟩ = some (.pointer (some ⟨R, 0, none⟩)) := (hf.cell (p := ⟨w.heap.size, 0, none⟩) HA1.out.lt (fun h => by have : w.heap.size = R := h; omega)).trans (HA1.out.cell 0)
    have k2 : w1.cell? ⟨w.heap.size + 1, 0, none⟩ = some (.int .i64 (at' : Int)) := (hf.cell (p := ⟨w.heap.size + 1, 0, none⟩) HA2.out.lt (fun h => by have : w.heap.size + 1 = R := h; omega)).trans (HA2.out.cell 0)
    refine leaves_cons (f := 211) (args := #[.pointer (some ⟨w.heap.size, 0, none⟩), .pointer (some ⟨w.heap.size + 1, 0, none⟩)]) (by simp) (by simp [go_sem]) ?_
    refine (catch_pace w.heap.size (w.heap.size + 1) w1 R a c bs p 0 0 code at' hr k1 k2).mono ?_
    rintro e u' w'' ⟨rfl, rfl, hR, hF⟩
    exact ⟨_, results_tmp rfl _ _ _, rfl, ⟨p, hR⟩, ((Fr.of_below HB4.out).trans hf).trans hF⟩
  | inr x =>
    go_wp2_with ((go_at_call 147; refine (C.out).mono ?_; rintro e w1 ⟨v, rfl, hv, hr, hf⟩))
    refine leaves_cons (f := 211) (args := #[.pointer (some ⟨w.heap.size, 0, none⟩), .pointer (some ⟨w.heap.size + 1, 0, none⟩)]) (by simp) (by simp [go_sem]) ?_
    refine (idle_pace _ _ w1).mono ?_
    rintro e u' w'' ⟨rfl, rfl, rfl⟩
    exact ⟨_, results_tmp rfl _ _ _, v, rfl, hv, hr, (Fr.of_below HB4.out).trans hf⟩
theorem idle_text (p q : Addr) (w : World) :
    CallsD Try.prog 204 #[.pointer (some p), .pointer (some q)] .returning w fun e u' w' => e = .returned (.tuple #[]) ∧ u' = .returning ∧ w' = w := by
  refine callsD_of_wpS Try.func204 rfl fun c₀ cs hu => ?_
  apply wpS_seq
  apply wpS_region
  simp [wpOpsS, go_sem, recoverD, hu, Try.ntmps204, Exit.thenS]
  refine wpS_of_wp ?_
  go_wp2
  cases c₀
  simp_all [bodyPostS, results, Try.results204]
set_option maxRecDepth 8000 in
set_option maxHeartbeats 1000000 in
theorem catch_text (p q : Nat) (w : World) (R : Nat) (a : Option Addr) (c : Nat) (bs : List Int) (at' : Nat) (fe fa code fr : Int) (h : RSt w R a c bs at' fe fa)
    (hp0 : w.cell? ⟨p, 0, none⟩ = some (.pointer (some ⟨R, 0, none⟩))) (hq0 : w.cell? ⟨q, 0, none⟩ = some (.int .i64 fr)) :
    CallsD Try.prog 204 #[.pointer (some ⟨p, 0, none⟩), .pointer (some ⟨q, 0, none⟩)] (.panicking (hp code)) w fun e u' w' => e = .returned (.tuple #[]) ∧ u' = .panicking (hp2 code) ∧ RSt w' R a c bs at' code fr ∧ Fr (Xr R) w w' := by
  have H := hide (halted_any w R a c bs at' fe fa code fr h)
  clear h
  refine callsD_of_wpS Try.func204 rfl fun c₀ cs hu => ?_
  apply wpS_seq
  apply wpS_region
  simp [wpOpsS, go_sem, recoverD, hu, hp, Try.ntmps204, Exit.thenS]
  refine wpS_of_wp ?_
  go_wp2_with ((go_at_call 201; refine (H.out).mono ?_; rintro e w1 ⟨rfl, h2⟩; have HH := hide h2; clear h2))
  exact ⟨rfl, _, rfl, _, by simp [results, Try.results204], rfl, rfl, HH.out⟩
theorem read_none_text (w : World) (p : Option Addr) (fv : Value) (h : NoR w p) (hp : ∀ S, p = some ⟨S, 0, none⟩ → S < w.heap.size) : Calls Try.prog 127 #[.pointer p, fv] w fun e w' => e = .returned (.string ⟨#[]⟩) ∧ Below w.heap.size w w' := by
  have H := hide (fun W (hb : Below w.heap.size w W) => reads_none W p (by
    rcases h with rfl | ⟨S, rfl, hc⟩
    · exact .inl rfl
    · exact .inr ⟨S, rfl, (hb.cell (hp S rfl)).trans hc⟩))
  have hmf : ∀ (fn : Fn) (first cap : Array Value) (w : World), (Instr.makeFunc fn first cap).run Try.prog w = .ok (.func fn first cap) w := fun _ _ _ _ => rfl
  have hb := hide (show Below w.heap.size w (w.alloc (.cells #[.pointer p] 48)) from Below.alloc (Below.refl _ _) (Nat.le_refl _) _)
  clear h hp
  go_enter_defers Try.func127, Try.ntmps127
  go_wp2_with ((go_at_call 123; refine (H.out _ hb.out).mono ?_; rintro e w1 ⟨rfl, rfl⟩))
  exact ⟨_, results_tmp rfl _ _ _, rfl, hb.out⟩
theorem read_fault_text (w : World) (R : Nat) (a : Option Addr) (c : Nat) (bs : List Int) (at' : Nat) (fe fa : Int) (fv : Value) (h : RSt w R a c bs at' fe fa) (he : fe ≠ 0) : Calls Try.prog 127 #[.pointer (some ⟨R, 0, none⟩), fv] w fun e w' => e = .returned (.string ⟨#[]⟩) ∧ Below w.heap.size w w' := by
  have H := hide (fun W (hb : Below w.heap.size w W) => reads_any W R a c bs at' fe fa (h.below hb))
  have e0 : (fe == 0) = false := by simpa using he
  have hb := hide (show Below w.heap.size w (w.alloc (.cells #[.pointer (some ⟨R, 0, none⟩)] 48)) from Below.alloc (Below.refl _ _) (Nat.le_refl _) _)
  rw [e0] at H
  clear h he e0
  go_enter_defers Try.func127, Try.ntmps127
  go_wp2_with ((go_at_call 123; refine (H.out _ hb.out).mono ?_; rintro e w1 ⟨rfl, rfl⟩))
  exact ⟨_, results_tmp rfl _ _ _, rfl, hb.out⟩
set_option maxRecDepth 8000 in
set_option maxHeartbeats 1000000 in
theorem read_text (w : World) (R : Nat) (a : Option Addr) (c : Nat) (bs : List Int) (at' : Nat) (X Y : Value) (out : Out) (h : RSt w R a c bs at' 0 0)
    (hG : ∀ W, Below w.heap.size w W → RSt W R a c bs at' 0 0 → Calls Try.prog 128 #[X, Y] W (ElemPost W R a c bs out)) :
    Calls Try.prog 127 #[.pointer (some ⟨R, 0, none⟩), .func (.func 128) #[] #[X, Y]] w (ReadPost w R a c bs at' (.string ⟨#[]⟩) out) := by
  have hlt := h.lt
  have H := hide (fun W (hb : Below w.heap.size w W) => reads_any W R a c bs at' 0 0 (h.below hb))
  have hb := hide (show Below w.heap.size w (w.alloc (.cells #[.pointer (some ⟨R, 0, none⟩)] 48)) from Below.alloc (Below.refl _ _) (Nat.le_refl _) _)
  have c2 : w.cell? ⟨R, 2, none⟩ = some (.int .i64 (at' : Int)) := by rw [h.cell.cell]; rfl
  obtain ⟨W4, e4⟩ : ∃ X, X = (w.alloc (.cells #[.pointer (some ⟨R, 0, none⟩)] 48)).alloc (.cells #[.int .i64 (at' : Int)] 3) := ⟨_, rfl⟩
  have hb4 : Below w.heap.size w W4 := by rw [e4]; exact Below.alloc (Below.alloc (Below.refl _ _) (Nat.le_refl _) _) (by simp) _
  have hA1 : At W4 w.heap.size 48 [.pointer (some ⟨R, 0, none⟩)] := by rw [e4]; exact At.alloc (At.new w _ [_]) _
  have hA2 : At W4 (w.heap.size + 1) 3 [.int .i64 (at' : Int)] := by
    rw [e4]
    have := At.new (w.alloc (.cells #[.pointer (some ⟨R, 0, none⟩)] 48)) 3 [.int .i64 (at' : Int)]
    rw [World.size_alloc] at this
    exact this
  have hmf : ∀ (fn : Fn) (first cap : Array Value) (w : World), (Instr.makeFunc fn first cap).run Try.prog w = .ok (.func fn first cap) w := fun _ _ _ _ => rfl
  have C := hide (hG W4 hb4 (h.below hb4))
  have E4 := hide e4
  have HB4 := hide hb4
  have HA1 := hide hA1
  have HA2 := hide hA2
  clear hG h e4 hb4 hA1 hA2
  go_enter_defers Try.func127, Try.ntmps127
  go_upto_region 5 with ((go_at_call 123; refine (H.out _ hb.out).mono ?_; rintro e w1 ⟨rfl, rfl⟩))
  rw [← E4.out]
  cases out with
  | inl code =>
    go_wp2_with ((go_at_call 128; refine (C.out).mono ?_; rintro e w1 ⟨rfl, ⟨p, hr⟩, hf⟩))
    have k1 : w1.cell? ⟨w.heap.size, 0, none⟩ = some (.pointer (some ⟨R, 0, none⟩)) := (hf.cell (p := ⟨w.heap.size, 0, none⟩) HA1.out.lt (fun h => by have : w.heap.size = R := h; omega)).trans (HA1.out.cell 0)
    have k2 : w1.cell? ⟨w.heap.size + 1, 0, none⟩ = some (.int .i64 (at' : Int)) := (hf.cell (p := ⟨w.heap.size + 1, 0, none⟩) HA2.out.lt (fun h => by have : w.heap.size + 1 = R := h; omega)).trans (HA2.out.cell 0)
    refine leaves_cons (f := 204) (args := #[.pointer (some ⟨w.heap.size, 0, none⟩), .pointer (some ⟨w.heap.size + 1, 0, none⟩)]) (by simp) (by simp [go_sem]) ?_
    refine (catch_text w.heap.size (w.heap.size + 1) w1 R a c bs p 0 0 code at' hr k1 k2).mono ?_
    rintro e u' w'' ⟨rfl, rfl, hR, hF⟩
    exact ⟨_, results_tmp rfl _ _ _, rfl, ⟨p, hR⟩, ((Fr.of_below HB4.out).trans hf).trans hF⟩
  | inr x =>
    go_wp2_with ((go_at_call 128; refine (C.out).mono ?_; rintro e w1 ⟨v, rfl, hv, hr, hf⟩))
    refine leaves_cons (f := 204) (args := #[.pointer (some ⟨w.heap.size, 0, none⟩), .pointer (some ⟨w.heap.size + 1, 0, none⟩)]) (by simp) (by simp [go_sem]) ?_
    refine (idle_text _ _ w1).mono ?_
    rintro e u' w'' ⟨rfl, rfl, rfl⟩
    exact ⟨_, results_tmp rfl _ _ _, v, rfl, hv, hr, (Fr.of_below HB4.out).trans hf⟩
theorem idle_bytes (p q : Addr) (w : World) :
    CallsD Try.prog 206 #[.pointer (some p), .pointer (some q)] .returning w fun e u' w' => e = .returned (.tuple #[]) ∧ u' = .returning ∧ w' = w := by
  refine callsD_of_wpS Try.func206 rfl fun c₀ cs hu => ?_
  apply wpS_seq
  apply wpS_region
  simp [wpOpsS, go_sem, recoverD, hu, Try.ntmps206, Exit.thenS]
  refine wpS_of_wp ?_
  go_wp2
  cases c₀
  simp_all [bodyPostS, results, Try.results206]
set_option maxRecDepth 8000 in
set_option maxHeartbeats 1000000 in
theorem catch_bytes (p q : Nat) (w : World) (R : Nat) (a : Option Addr) (c : Nat) (bs : List Int) (at' : Nat) (fe fa code fr : Int) (h : RSt w R a c bs at' fe fa)
    (hp0 : w.cell? ⟨p, 0, none⟩ = some (.pointer (some ⟨R, 0, none⟩))) (hq0 : w.cell? ⟨q, 0, none⟩ = some (.int .i64 fr)) :
    CallsD Try.prog 206 #[.pointer (some ⟨p, 0, none⟩), .pointer (some ⟨q, 0, none⟩)] (.panicking (hp code)) w fun e u' w' => e = .returned (.tuple #[]) ∧ u' = .panicking (hp2 code) ∧ RSt w' R a c bs at' code fr ∧ Fr (Xr R) w w' := by
  have H := hide (halted_any w R a c bs at' fe fa code fr h)
  clear h
  refine callsD_of_wpS Try.func206 rfl fun c₀ cs hu => ?_
  apply wpS_seq
  apply wpS_region
  simp [wpOpsS, go_sem, recoverD, hu, hp, Try.ntmps206, Exit.thenS]
  refine wpS_of_wp ?_
  go_wp2_with ((go_at_call 201; refine (H.out).mono ?_; rintro e w1 ⟨rfl, h2⟩; have HH := hide h2; clear h2))
  exact ⟨rfl, _, rfl, _, by simp [results, Try.results206], rfl, rfl, HH.out⟩
theorem read_none_bytes (w : World) (p : Option Addr) (fv : Value) (h : NoR w p) (hp : ∀ S, p = some ⟨S, 0, none⟩ → S < w.heap.size) : Calls Try.prog 131 #[.pointer p, fv] w fun e w' => e = .returned (.slice none 0 0) ∧ Below w.heap.size w w' := by
  have H := hide (fun W (hb : Below w.heap.size w W) => reads_none W p (by
    rcases h with rfl | ⟨S, rfl, hc⟩
    · exact .inl rfl
    · exact .inr ⟨S, rfl, (hb.cell (hp S rfl)).trans hc⟩))
  have hmf : ∀ (fn : Fn) (first cap : Array Value) (w : World), (Instr.makeFunc fn first cap).run Try.prog w = .ok (.func fn first cap) w := fun _ _ _ _ => rfl
  have hb := hide (show Below w.heap.size w (w.alloc (.cells #[.pointer p] 48)) from Below.alloc (Below.refl _ _) (Nat.le_refl _) _)
  clear h hp
  go_enter_defers Try.func131, Try.ntmps131
  go_wp2_with ((go_at_call 123; refine (H.out _ hb.out).mono ?_; rintro e w1 ⟨rfl, rfl⟩))
  exact ⟨_, results_tmp rfl _ _ _, rfl, hb.out⟩
theorem read_fault_bytes (w : World) (R : Nat) (a : Option Addr) (c : Nat) (bs : List Int) (at' : Nat) (fe fa : Int) (fv : Value) (h : RSt w R a c bs at' fe fa) (he : fe ≠ 0) : Calls Try.prog 131 #[.pointer (some ⟨R, 0, none⟩), fv] w fun e w' => e = .returned (.slice none 0 0) ∧ Below w.heap.size w w' := by
  have H := hide (fun W (hb : Below w.heap.size w W) => reads_any W R a c bs at' fe fa (h.below hb))
  have e0 : (fe == 0) = false := by simpa using he
  have hb := hide (show Below w.heap.size w (w.alloc (.cells #[.pointer (some ⟨R, 0, none⟩)] 48)) from Below.alloc (Below.refl _ _) (Nat.le_refl _) _)
  rw [e0] at H
  clear h he e0
  go_enter_defers Try.func131, Try.ntmps131
  go_wp2_with ((go_at_call 123; refine (H.out _ hb.out).mono ?_; rintro e w1 ⟨rfl, rfl⟩))
  exact ⟨_, results_tmp rfl _ _ _, rfl, hb.out⟩
set_option maxRecDepth 8000 in
set_option maxHeartbeats 1000000 in
theorem read_bytes (w : World) (R : Nat) (a : Option Addr) (c : Nat) (bs : List Int) (at' : Nat) (X Y : Value) (out : Out) (h : RSt w R a c bs at' 0 0)
    (hG : ∀ W, Below w.heap.size w W → RSt W R a c bs at' 0 0 → Calls Try.prog 132 #[X, Y] W (ElemPost W R a c bs out)) :
    Calls Try.prog 131 #[.pointer (some ⟨R, 0, none⟩), .func (.func 132) #[] #[X, Y]] w (ReadPost w R a c bs at' (.slice none 0 0) out) := by
  have hlt := h.lt
  have H := hide (fun W (hb : Below w.heap.size w W) => reads_any W R a c bs at' 0 0 (h.below hb))
  have hb := hide (show Below w.heap.size w (w.alloc (.cells #[.pointer (some ⟨R, 0, none⟩)] 48)) from Below.alloc (Below.refl _ _) (Nat.le_refl _) _)
  have c2 : w.cell? ⟨R, 2, none⟩ = some (.int .i64 (at' : Int)) := by rw [h.cell.cell]; rfl
  obtain ⟨W4, e4⟩ : ∃ X, X = (w.alloc (.cells #[.pointer (some ⟨R, 0, none⟩)] 48)).alloc (.cells #[.int .i64 (at' : Int)] 3) := ⟨_, rfl⟩
  have hb4 : Below w.heap.size w W4 := by rw [e4]; exact Below.alloc (Below.alloc (Below.refl _ _) (Nat.le_refl _) _) (by simp) _
  have hA1 : At W4 w.heap.size 48 [.pointer (some ⟨R, 0, none⟩)] := by rw [e4]; exact At.alloc (At.new w _ [_]) _
  have hA2 : At W4 (w.heap.size + 1) 3 [.int .i64 (at' : Int)] := by
    rw [e4]
    have := At.new (w.alloc (.cells #[.pointer (some ⟨R, 0, none⟩)] 48)) 3 [.int .i64 (at' : Int)]
    rw [World.size_alloc] at this
    exact this
  have hmf : ∀ (fn : Fn) (first cap : Array Value) (w : World), (Instr.makeFunc fn first cap).run Try.prog w = .ok (.func fn first cap) w := fun _ _ _ _ => rfl
  have C := hide (hG W4 hb4 (h.below hb4))
  have E4 := hide e4
  have HB4 := hide hb4
  have HA1 := hide hA1
  have HA2 := hide hA2
  clear hG h e4 hb4 hA1 hA2
  go_enter_defers Try.func131, Try.ntmps131
  go_upto_region 5 with ((go_at_call 123; refine (H.out _ hb.out).mono ?_; rintro e w1 ⟨rfl, rfl⟩))
  rw [← E4.out]
  cases out with
  | inl code =>
    go_wp2_with ((go_at_call 132; refine (C.out).mono ?_; rintro e w1 ⟨rfl, ⟨p, hr⟩, hf⟩))
    have k1 : w1.cell? ⟨w.heap.size, 0, none⟩ = some (.pointer (some ⟨R, 0, none⟩)) := (hf.cell (p := ⟨w.heap.size, 0, none⟩) HA1.out.lt (fun h => by have : w.heap.size = R := h; omega)).trans (HA1.out.cell 0)
    have k2 : w1.cell? ⟨w.heap.size + 1, 0, none⟩ = some (.int .i64 (at' : Int)) := (hf.cell (p := ⟨w.heap.size + 1, 0, none⟩) HA2.out.lt (fun h => by have : w.heap.size + 1 = R := h; omega)).trans (HA2.out.cell 0)
    refine leaves_cons (f := 206) (args := #[.pointer (some ⟨w.heap.size, 0, none⟩), .pointer (some ⟨w.heap.size + 1, 0, none⟩)]) (by simp) (by simp [go_sem]) ?_
    refine (catch_bytes w.heap.size (w.heap.size + 1) w1 R a c bs p 0 0 code at' hr k1 k2).mono ?_
    rintro e u' w'' ⟨rfl, rfl, hR, hF⟩
    exact ⟨_, results_tmp rfl _ _ _, rfl, ⟨p, hR⟩, ((Fr.of_below HB4.out).trans hf).trans hF⟩
  | inr x =>
    go_wp2_with ((go_at_call 132; refine (C.out).mono ?_; rintro e w1 ⟨v, rfl, hv, hr, hf⟩))
    refine leaves_cons (f := 206) (args := #[.pointer (some ⟨w.heap.size, 0, none⟩), .pointer (some ⟨w.heap.size + 1, 0, none⟩)]) (by simp) (by simp [go_sem]) ?_
    refine (idle_bytes _ _ w1).mono ?_
    rintro e u' w'' ⟨rfl, rfl, rfl⟩
    exact ⟨_, results_tmp rfl _ _ _, v, rfl, hv, hr, (Fr.of_below HB4.out).trans hf⟩
end WirI
end Go.Proofs.Ythcemghamdmjmaa

namespace Go.Proofs.Ythcemghamdmjmaa
namespace WirJ
open Go.RowKit
open BlkM WirM WirS WirA WirB WirE WirF WirG WirH WirI

def outOf {α : Type} (f : α → Value) : Sum Int (α × Nat) → Out
  | .inl c => .inl c
  | .inr x => .inr (fun v _ => v = f x.1, x.2)
/-- The number at a place. -/
def numO (bs : List Int) (at' : Nat) : Sum Int (Int × Nat) :=
  if bs.length < at' + 1 then .inl 6 else
  if 8 < bs.getD at' 0 then .inl 5 else
  if bs.length < at' + 1 + (bs.getD at' 0).toNat then .inl 6 else
  if badN ((bs.drop (at' + 1)).take (bs.getD at' 0).toNat) then .inl 5 else
  .inr (vL ((bs.drop (at' + 1)).take (bs.getD at' 0).toNat), at' + 1 + (bs.getD at' 0).toNat)
def wordO (bs : List Int) (at' : Nat) : Sum Int (Int × Nat) :=
  if bs.length < at' + 8 then .inl 6 else .inr (vL ((bs.drop at').take 8), at' + 8)
def boolO (bs : List Int) (at' : Nat) : Sum Int (Bool × Nat) :=
  if bs.length < at' + 1 then .inl 6 else if 1 < bs.getD at' 0 then .inl 5 else .inr (bs.getD at' 0 == 1, at' + 1)
/-- So many bytes as their number says, at most most. -/
def sizedO (bs : List Int) (at' : Nat) (most : Int) : Sum Int (List Int × Nat) :=
  match numO bs at' with
  | .inl c => .inl c
  | .inr x => if max most 0 < x.1 then .inl 4 else if bs.length < x.2 + x.1.toNat then .inl 6 else .inr ((bs.drop x.2).take x.1.toNat, x.2 + x.1.toNat)
theorem one_at (bs : List Int) (at' : Nat) (h : at' + 1 ≤ bs.length) : (bs.drop at').take 1 = [bs.getD at' 0] := by
  have hl : at' < bs.length := by omega
  rw [List.drop_eq_getElem_cons hl, List.take_succ_cons, List.take_zero]
  simp [List.getD, hl]
theorem byte_at {bs : List Int} (h : ∀ x ∈ bs, 0 ≤ x ∧ x < 256) (at' : Nat) : 0 ≤ bs.getD at' 0 ∧ bs.getD at' 0 < 256 := by
  by_cases hl : at' < bs.length
  · have := h bs[at'] (List.getElem_mem hl)
    simpa [List.getD, hl] using this
  · simp [List.getD, Nat.le_of_not_lt hl]
theorem take_word_ok (w : World) (R : Nat) (a : Option Addr) (c : Nat) (bs : List Int) (at' n : Nat) (h : RSt w R a c bs at' 0 0) (hn : at' + n ≤ bs.length) (h8 : n ≤ 8) :
    Calls Try.prog 144 #[.pointer (some ⟨R, 0, none⟩), .int .i64 (n : Int), .func (.func 145) #[] #[]] w (Got w R a c bs (.int .u64 (vL ((bs.drop at').take n))) (at' + n)) :=
  take_word w R a c bs at' n h hn _ (fun _ h => by cases h.1) fun W hR hF =>
    (word_any W (sa a c at') n (c - at') _ (bin_sub hR.bin at' n hn) (sub_rng hR.bytes at' n) (by simp; omega)).mono fun e w' ⟨h1, h2⟩ => by subst h2; exact ⟨h1, hR, hF⟩
theorem take_nat_ok (w : World) (R : Nat) (a : Option Addr) (c : Nat) (bs : List Int) (at' n : Nat) (h : RSt w R a c bs at' 0 0) (hn : at' + n ≤ bs.length) (h8 : n ≤ 8) (hb : ¬ badN ((bs.drop at').take n)) :
    Calls Try.prog 202 #[.pointer (some ⟨R, 0, none⟩), .int .i64 (n : Int), .func (.func 203) #[] #[]] w (Got w R a c bs (.int .i64 (vL ((bs.drop at').take n))) (at' + n)) :=
  take_natural w R a c bs at' n h hn _ (fun _ h => by cases h.1) fun W hR hF =>
    (natural_ok W (sa a c at') n (c - at') _ (bin_sub hR.bin at' n hn) (sub_rng hR.bytes at' n) (by simp; omega) hb).mono fun e w' ⟨h1, h2⟩ => by subst h2; exact ⟨h1, hR, hF⟩
theorem take_nat_bad (w : World) (R : Nat) (a : Option Addr) (c : Nat) (bs : List Int) (at' n : Nat) (h : RSt w R a c bs at' 0 0) (hn : at' + n ≤ bs.length) (h8 : n ≤ 8) (hb : badN ((bs.drop at').take n)) :
    Calls Try.prog 202 #[.pointer (some ⟨R, 0, none⟩), .int .i64 (n : Int), .func (.func 203) #[] #[]] w (Bad w R a c bs 5) :=
  take_natural w R a c bs at' n h hn _ (fun _ h => by cases h.1) fun W hR hF =>
    (natural_bad W (sa a c at') n (c - at') _ (bin_sub hR.bin at' n hn) (sub_rng hR.bytes at' n) (by simp; omega) hb).mono fun e w' ⟨h1, h2⟩ => by subst h2; exact ⟨h1, ⟨_, hR⟩, hF⟩
set_option maxHeartbeats 2000000 in
theorem takeNumber_any (w : World) (R : Nat) (a : Option Addr) (c : Nat) (bs : List Int) (at' : Nat) (h : RSt w R a c bs at' 0 0) :
    Calls Try.prog 126 #[.pointer (some ⟨R, 0, none⟩)] w (ElemPost w R a c bs (outOf (Value.int .i64) (numO bs at'))) := by
  have hB := byte_at h.bytes at'
  by_cases h1 : bs.length < at' + 1
  · have H := hide (show Calls _ _ #[_, .int .i64 1, _] _ _ from take_short_word w R a c bs at' 1 (.func (.func 145) #[] #[]) h (by omega) h1)
    rw [show numO bs at' = .inl 6 by unfold numO; rw [if_pos h1]]
    clear h hB h1
    go_enter Try.func126, Try.ntmps126
    go_wp2_with ((go_at_call 144; refine (H.out).mono ?_; rintro e w1 ⟨rfl, h2⟩))
    exact ⟨rfl, rfl, h2⟩
  · have H := hide (show Calls _ _ #[_, .int .i64 1, _] _ _ from take_word_ok w R a c bs at' 1 h (by omega) (by omega))
    rw [one_at bs at' (by omega), show vL [bs.getD at' 0] = bs.getD at' 0 by simp [vL]] at H
    obtain ⟨k, hk⟩ := Int.eq_ofNat_of_zero_le hB.1
    by_cases h2 : 8 < bs.getD at' 0
    · rw [show numO bs at' = .inl 5 by unfold numO; rw [if_neg h1, if_pos h2]]
      generalize bs.getD at' 0 = x at H hB h2
      clear h hk h1
      obtain ⟨hx0, hx1⟩ := hB
      go_enter Try.func126, Try.ntmps126
      go_wp2_with ((go_at_call 144; refine (H.out).mono ?_; rintro e w1 ⟨rfl, h3, h4⟩; have HR := hide h3; clear h3))
      exact ⟨rfl, rfl, ⟨_, HR.out⟩, h4⟩
    · have hk8 : k ≤ 8 := by omega
      have hkn : (bs.getD at' 0).toNat = k := by rw [hk]; rfl
      have hnum : numO bs at' = if bs.length < at' + 1 + k then .inl 6 else if badN ((bs.drop (at' + 1)).take k) then .inl 5 else .inr (vL ((bs.drop (at' + 1)).take k), at' + 1 + k) := by
        unfold numO
        rw [if_neg h1, if_neg h2, hkn]
      rw [hnum]
      rw [hk] at H
      by_cases h3 : bs.length < at' + 1 + k
      · rw [if_pos h3]
        have H2 := hide (fun W (hR : RSt W R a c bs (at' + 1) 0 0) => take_short_natural W R a c bs (at' + 1) k (.func (.func 203) #[] #[]) hR (by omega) h3)
        clear h hB hk h1 h2 hkn hnum h3
        go_enter Try.func126, Try.ntmps126
        go_wp2_with (first | ((go_at_call 144; refine (H.out).mono ?_; rintro e w1 ⟨rfl, h3, h4⟩; have HR := hide h3; clear h3)) | ((go_at_call 202; refine (H2.out _ HR.out).mono ?_; rintro e w2 ⟨rfl, h5, h6⟩)))
        exact ⟨rfl, rfl, h5, h4.trans h6⟩
      · rw [if_neg h3]
        by_cases h4 : badN ((bs.drop (at' + 1)).take k)
        · rw [if_pos h4]
          have H2 := hide (fun W (hR : RSt W R a c bs (at' + 1) 0 0) => take_nat_bad W R a c bs (at' + 1) k hR (by omega) hk8 h4)
          clear h hB hk h1 h2 hkn hnum h3 h4
          go_enter Try.func126, Try.ntmps126
          go_wp2_with (first | ((go_at_call 144; refine (H.out).mono ?_; rintro e w1 ⟨rfl, h3, h4⟩; have HR := hide h3; clear h3)) | ((go_at_call 202; refine (H2.out _ HR.out).mono ?_; rintro e w2 ⟨rfl, h5, h6⟩)))
          exact ⟨rfl, rfl, h5, h4.trans h6⟩
        · rw [if_neg h4]
          have H2 := hide (fun W (hR : RSt W R a c bs (at' + 1) 0 0) => take_nat_ok W R a c bs (at' + 1) k hR (by omega) hk8 h4)
          clear h hB hk h1 h2 hkn hnum h3 h4
          generalize vL ((bs.drop (at' + 1)).take k) = y at H2 ⊢
          go_enter Try.func126, Try.ntmps126
          go_wp2_with (first | ((go_at_call 144; refine (H.out).mono ?_; rintro e w1 ⟨rfl, h3, h4⟩; have HR := hide h3; clear h3)) | ((go_at_call 202; refine (H2.out _ HR.out).mono ?_; rintro e w2 ⟨rfl, h5, h6⟩; have HR2 := hide h5; clear h5)))
          go_ret
          exact ⟨_, rfl, rfl, HR2.out, h4.trans h6⟩
/-! ### what is read: a word, a bool, a text, bytes -/
theorem wordC (w : World) (R : Nat) (a : Option Addr) (c : Nat) (bs : List Int) (at' b : Nat) (h : RSt w R a c bs at' 0 0) (hb : w.cell? ⟨b, 0, none⟩ = some (.pointer (some ⟨R, 0, none⟩))) :
    Calls Try.prog 143 #[.pointer (some ⟨b, 0, none⟩)] w (ElemPost w R a c bs (outOf (Value.int .u64) (wordO bs at'))) := by
  by_cases h1 : bs.length < at' + 8
  · have H := hide (show Calls _ _ #[_, .int .i64 8, _] _ _ from take_short_word w R a c bs at' 8 (.func (.func 145) #[] #[]) h (by omega) h1)
    rw [show wordO bs at' = .inl 6 by unfold wordO; rw [if_pos h1]]
    clear h h1
    go_enter Try.func143, Try.ntmps143
    go_wp2_with ((go_at_call 144; refine (H.out).mono ?_; rintro e w1 ⟨rfl, h2⟩))
    exact ⟨rfl, rfl, h2⟩
  · have H := hide (show Calls _ _ #[_, .int .i64 8, _] _ _ from take_word_ok w R a c bs at' 8 h (by omega) (by omega))
    rw [show wordO bs at' = .inr (vL ((bs.drop at').take 8), at' + 8) by unfold wordO; rw [if_neg h1]]
    generalize vL ((bs.drop at').take 8) = y at H ⊢
    clear h h1
    go_enter Try.func143, Try.ntmps143
    go_wp2_with ((go_at_call 144; refine (H.out).mono ?_; rintro e w1 ⟨rfl, h3, h4⟩; have HR := hide h3; clear h3))
    go_ret
    exact ⟨_, rfl, rfl, HR.out, h4⟩
theorem boolC (w : World) (R : Nat) (a : Option Addr) (c : Nat) (bs : List Int) (at' b : Nat) (h : RSt w R a c bs at' 0 0) (hb : w.cell? ⟨b, 0, none⟩ = some (.pointer (some ⟨R, 0, none⟩))) :
    Calls Try.prog 151 #[.pointer (some ⟨b, 0, none⟩)] w (ElemPost w R a c bs (outOf Value.bool (boolO bs at'))) := by
  by_cases h1 : bs.length < at' + 1
  · have H := hide (show Calls _ _ #[_, .int .i64 1, _] _ _ from take_short_truth w R a c bs at' 1 (.func (.func 153) #[] #[]) h (by omega) h1)
    rw [show boolO bs at' = .inl 6 by unfold boolO; rw [if_pos h1]]
    clear h h1
    go_enter Try.func151, Try.ntmps151
    go_wp2_with ((go_at_call 152; refine (H.out).mono ?_; rintro e w1 ⟨rfl, h2⟩))
    exact ⟨rfl, rfl, h2⟩
  · by_cases h2 : 1 < bs.getD at' 0
    · have H := hide (show Calls _ _ #[_, .int .i64 1, _] _ (Bad w R a c bs 5) from take_truth w R a c bs at' 1 h (by omega) _ (fun _ h => by cases h.1) fun W hR hF =>
        (truth_bad W (sa a c at') 1 (c - at') (bs.getD at' 0) (by rw [← one_at bs at' (by omega)]; exact bin_sub hR.bin at' 1 (by omega)) h2).mono fun e w' ⟨h1, h2⟩ => by subst h2; exact ⟨h1, ⟨_, hR⟩, hF⟩)
      rw [show boolO bs at' = .inl 5 by unfold boolO; rw [if_neg h1, if_pos h2]]
      clear h h1 h2
      go_enter Try.func151, Try.ntmps151
      go_wp2_with ((go_at_call 152; refine (H.out).mono ?_; rintro e w1 ⟨rfl, h2⟩))
      exact ⟨rfl, rfl, h2⟩
    · have H := hide (show Calls _ _ #[_, .int .i64 1, _] _ (Got w R a c bs (.bool (bs.getD at' 0 == 1)) (at' + 1)) from take_truth w R a c bs at' 1 h (by omega) _ (fun _ h => by cases h.1) fun W hR hF =>
        (truth_ok W (sa a c at') 1 (c - at') (bs.getD at' 0) (by rw [← one_at bs at' (by omega)]; exact bin_sub hR.bin at' 1 (by omega)) h2).mono fun e w' ⟨h1, h2⟩ => by subst h2; exact ⟨h1, hR, hF⟩)
      rw [show boolO bs at' = .inr (bs.getD at' 0 == 1, at' + 1) by unfold boolO; rw [if_neg h1, if_neg h2]]
      generalize (bs.getD at' 0 == 1) = y at H ⊢
      clear h h1 h2
      go_enter Try.func151, Try.ntmps151
      go_wp2_with ((go_at_call 152; refine (H.out).mono ?_; rintro e w1 ⟨rfl, h3, h4⟩; have HR := hide h3; clear h3))
      go_ret
      exact ⟨_, rfl, rfl, HR.out, h4⟩
/-- The text that bytes are. -/
def st (zs : List Int) : ByteArray := strOfNums zs
theorem conv_any (w : World) (a : Option Addr) (n c : Nat) (zs : List Int) (h : BIn w (.slice a n c) zs) : (convert 32 9 (.slice a n c)).run Try.prog w = .ok (.string (st zs)) w := by
  obtain ⟨a', c', e1, _, hz⟩ := h
  obtain ⟨rfl, rfl, rfl⟩ : a = a' ∧ n = zs.length ∧ c = c' := by cases e1; exact ⟨rfl, rfl, rfl⟩
  by_cases hne : zs = []
  · subst hne
    cases a with
    | none => exact run_convert_bytes_nil w _ _ Try.underlying32 Try.underlying5 _ _ _ Try.underlying9
    | some ad =>
      rw [run_convert_bytes_string w _ _ _ _ _ _ Try.underlying32 Try.underlying5 Try.underlying9]
      exact run_bytesToString w ad 0 c [] (by simp [loadCells, loadCellsFrom])
  · obtain ⟨B, o, rfl, _, hc⟩ := hz hne
    exact run_convert_bytes_arg w _ _ Try.underlying32 Try.underlying5 B o _ c zs rfl hc _ Try.underlying9
theorem text11 (w : World) (a : Option Addr) (n c : Nat) (zs : List Int) (h : BIn w (.slice a n c) zs) : Calls Try.prog 130 #[.slice a n c] w fun e w' => e = .returned (.string (st zs)) ∧ w = w' := by
  have H := conv_any w a n c zs h
  clear h
  go_enter Try.func130, Try.ntmps130
  go_wp2
  go_ret
  exact ⟨rfl, rfl⟩
end WirJ
end Go.Proofs.Ythcemghamdmjmaa

namespace Go.Proofs.Ythcemghamdmjmaa
namespace WirK
open Go.RowKit
open BlkM WirM WirS WirA WirB WirE WirF WirG WirH WirI WirJ

/-- Bytes that are handed out: memory of their own. -/
def Fresh (w0 : World) (zs : List Int) (v : Value) (w' : World) : Prop := ∃ va vn vc, v = .slice va vn vc ∧ Own w' 5 (.slice va vn vc) zs ∧ NewB w0 (.slice va vn vc)
def outB (w0 : World) : Sum Int (List Int × Nat) → Out
  | .inl c => .inl c
  | .inr x => .inr (Fresh w0 x.1, x.2)
theorem numO_ok {bs : List Int} {at' : Nat} (hb : ∀ x ∈ bs, 0 ≤ x ∧ x < 256) {x : Int × Nat} (h : numO bs at' = .inr x) : 0 ≤ x.1 ∧ x.1 ≤ 9223372036854775807 ∧ at' < x.2 ∧ x.2 ≤ bs.length := by
  unfold numO at h
  split at h
  · cases h
  split at h
  · cases h
  split at h
  · cases h
  split at h
  · cases h
  rename_i h1 h2 h3 h4
  cases h
  have := vL_lt _ (sub_rng hb (at' + 1) (bs.getD at' 0).toNat)
  refine ⟨this.1, ?_, ?_, ?_⟩
  · simp only [badN, not_or] at h4
    omega
  · show at' < at' + 1 + (bs.getD at' 0).toNat
    omega
  · show at' + 1 + (bs.getD at' 0).toNat ≤ bs.length
    omega
theorem take_text_ok (w : World) (R : Nat) (a : Option Addr) (c : Nat) (bs : List Int) (at' n : Nat) (h : RSt w R a c bs at' 0 0) (hn : at' + n ≤ bs.length) :
    Calls Try.prog 205 #[.pointer (some ⟨R, 0, none⟩), .int .i64 (n : Int), .func (.func 130) #[] #[]] w (fun e w' => ∃ v, e = .returned v ∧ v = .string (st ((bs.drop at').take n)) ∧ RSt w' R a c bs (at' + n) 0 0 ∧ Fr (Xr R) w w') :=
  take_text w R a c bs at' n h hn _ (fun _ ⟨_, h, _⟩ => by cases h) fun W hR hF =>
    (text11 W (sa a c at') n (c - at') _ (bin_sub hR.bin at' n hn)).mono fun e w' ⟨h1, h2⟩ => by subst h2; exact ⟨_, h1, rfl, hR, hF⟩
theorem take_bytes_ok (w0 w : World) (hw : w0.heap.size ≤ w.heap.size) (R : Nat) (a : Option Addr) (c : Nat) (bs : List Int) (at' n : Nat) (h : RSt w R a c bs at' 0 0) (hn : at' + n ≤ bs.length) :
    Calls Try.prog 207 #[.pointer (some ⟨R, 0, none⟩), .int .i64 (n : Int), .func (.func 113) #[] #[]] w (fun e w' => ∃ v, e = .returned v ∧ Fresh w0 ((bs.drop at').take n) v w' ∧ RSt w' R a c bs (at' + n) 0 0 ∧ Fr (Xr R) w w') :=
  take_bytes w R a c bs at' n h hn _ (fun _ ⟨_, h, _⟩ => by cases h) fun W hR hF =>
    (clone_any W (sa a c at') n (c - at') _ (bin_sub hR.bin at' n hn) (by have := hR.small; omega)).mono fun e w' ⟨va, vn, vc, h1, h2, h3, h4⟩ =>
      ⟨_, h1, ⟨va, vn, vc, rfl, h2, fun k hk => Nat.le_trans hw (Nat.le_trans hF.size (h3 k hk))⟩, hR.below h4, hF.trans (Fr.of_below h4)⟩
set_option maxHeartbeats 2000000 in
theorem sized_text (w : World) (R : Nat) (a : Option Addr) (c : Nat) (bs : List Int) (at' : Nat) (most : Int) (h : RSt w R a c bs at' 0 0) :
    Calls Try.prog 129 #[.pointer (some ⟨R, 0, none⟩), .int .i64 most, .func (.func 130) #[] #[]] w (ElemPost w R a c bs (outOf (fun zs => Value.string (st zs)) (sizedO bs at' most))) := by
  have H := hide (takeNumber_any w R a c bs at' h)
  have hB := h.bytes
  cases hnum : numO bs at' with
  | inl code =>
    rw [show sizedO bs at' most = .inl code by unfold sizedO; rw [hnum]]
    rw [hnum] at H
    clear h hB hnum
    go_enter Try.func129, Try.ntmps129
    go_wp2_with ((go_at_call 126; refine (H.out).mono ?_; rintro e w1 ⟨rfl, h2⟩))
    exact ⟨rfl, rfl, h2⟩
  | inr x =>
    obtain ⟨y, p⟩ := x
    have hok := numO_ok hB hnum
    simp only at hok
    obtain ⟨n, rfl⟩ := Int.eq_ofNat_of_zero_le hok.1
    rw [hnum] at H
    have hs : sizedO bs at' most = if max most 0 < (n : Int) then .inl 4 else if bs.length < p + n then .inl 6 else .inr ((bs.drop p).take n, p + n) := by
      unfold sizedO
      rw [hnum]
      simp
    rw [hs]
    clear h hB hnum hs
    obtain ⟨_, hn1, _, hp⟩ := hok
    by_cases h1 : max most 0 < (n : Int)
    · rw [if_pos h1]
      go_enter Try.func129, Try.ntmps129
      go_wp2_with ((go_at_call 126; refine (H.out).mono ?_; rintro e w1 ⟨v, rfl, rfl, hr, hf⟩; have HR := hide hr; clear hr))
      exact ⟨rfl, rfl, ⟨_, HR.out⟩, hf⟩
    · rw [if_neg h1]
      by_cases h2 : bs.length < p + n
      · rw [if_pos h2]
        have H2 := hide (fun W (hR : RSt W R a c bs p 0 0) => take_short_text W R a c bs p n (.func (.func 130) #[] #[]) hR (by omega) h2)
        go_enter Try.func129, Try.ntmps129
        go_wp2_with (first | ((go_at_call 126; refine (H.out).mono ?_; rintro e w1 ⟨v, rfl, rfl, hr, hf⟩; have HR := hide hr; clear hr)) | ((go_at_call 205; refine (H2.out _ HR.out).mono ?_; rintro e w2 ⟨rfl, h5, h6⟩)))
        exact ⟨rfl, rfl, h5, hf.trans h6⟩
      · rw [if_neg h2]
        have H2 := hide (fun W (hR : RSt W R a c bs p 0 0) (hs : w.heap.size ≤ W.heap.size) => take_text_ok W R a c bs p n hR (by omega))
        generalize (bs.drop p).take n = zs at H2 ⊢
        go_enter Try.func129, Try.ntmps129
        go_wp2_with (first | ((go_at_call 126; refine (H.out).mono ?_; rintro e w1 ⟨v, rfl, rfl, hr, hf⟩; have HR := hide hr; clear hr)) | ((go_at_call 205; refine (H2.out _ HR.out hf.size).mono ?_; rintro e w2 ⟨v, rfl, h7, h5, h6⟩; have HR2 := hide h5; have H7 := hide h7; clear h5 h7)))
        first | exact ⟨_, rfl, H7.out, HR2.out, hf.trans h6⟩ | (go_ret; exact ⟨_, rfl, H7.out, HR2.out, hf.trans h6⟩)
set_option maxHeartbeats 2000000 in
theorem sized_bytes (w0 w : World) (hw : w0.heap.size ≤ w.heap.size) (R : Nat) (a : Option Addr) (c : Nat) (bs : List Int) (at' : Nat) (most : Int) (h : RSt w R a c bs at' 0 0) :
    Calls Try.prog 133 #[.pointer (some ⟨R, 0, none⟩), .int .i64 most, .func (.func 113) #[] #[]] w (ElemPost w R a c bs (outB w0 (sizedO bs at' most))) := by
  have H := hide (takeNumber_any w R a c bs at' h)
  have hB := h.bytes
  cases hnum : numO bs at' with
  | inl code =>
    rw [show sizedO bs at' most = .inl code by unfold sizedO; rw [hnum]]
    rw [hnum] at H
    clear h hB hnum
    go_enter Try.func133, Try.ntmps133
    go_wp2_with ((go_at_call 126; refine (H.out).mono ?_; rintro e w1 ⟨rfl, h2⟩))
    exact ⟨rfl, rfl, h2⟩
  | inr x =>
    obtain ⟨y, p⟩ := x
    have hok := numO_ok hB hnum
    simp only at hok
    obtain ⟨n, rfl⟩ := Int.eq_ofNat_of_zero_le hok.1
    rw [hnum] at H
    have hs : sizedO bs at' most = if max most 0 < (n : Int) then .inl 4 else if bs.length < p + n then .inl 6 else .inr ((bs.drop p).take n, p + n) := by
      unfold sizedO
      rw [hnum]
      simp
    rw [hs]
    clear h hB hnum hs
    obtain ⟨_, hn1, _, hp⟩ := hok
    by_cases h1 : max most 0 < (n : Int)
    · rw [if_pos h1]
      go_enter Try.func133, Try.ntmps133
      go_wp2_with ((go_at_call 126; refine (H.out).mono ?_; rintro e w1 ⟨v, rfl, rfl, hr, hf⟩; have HR := hide hr; clear hr))
      exact ⟨rfl, rfl, ⟨_, HR.out⟩, hf⟩
    · rw [if_neg h1]
      by_cases h2 : bs.length < p + n
      · rw [if_pos h2]
        have H2 := hide (fun W (hR : RSt W R a c bs p 0 0) => take_short_bytes W R a c bs p n (.func (.func 113) #[] #[]) hR (by omega) h2)
        go_enter Try.func133, Try.ntmps133
        go_wp2_with (first | ((go_at_call 126; refine (H.out).mono ?_; rintro e w1 ⟨v, rfl, rfl, hr, hf⟩; have HR := hide hr; clear hr)) | ((go_at_call 207; refine (H2.out _ HR.out).mono ?_; rintro e w2 ⟨rfl, h5, h6⟩)))
        exact ⟨rfl, rfl, h5, hf.trans h6⟩
      · rw [if_neg h2]
        have H2 := hide (fun W (hR : RSt W R a c bs p 0 0) (hs : w.heap.size ≤ W.heap.size) => take_bytes_ok w0 W (Nat.le_trans hw hs) R a c bs p n hR (by omega))
        generalize (bs.drop p).take n = zs at H2 ⊢
        go_enter Try.func133, Try.ntmps133
        go_wp2_with (first | ((go_at_call 126; refine (H.out).mono ?_; rintro e w1 ⟨v, rfl, rfl, hr, hf⟩; have HR := hide hr; clear hr)) | ((go_at_call 207; refine (H2.out _ HR.out hf.size).mono ?_; rintro e w2 ⟨v, rfl, h7, h5, h6⟩; have HR2 := hide h5; have H7 := hide h7; clear h5 h7)))
        first | exact ⟨_, rfl, H7.out, HR2.out, hf.trans h6⟩ | (go_ret; exact ⟨_, rfl, H7.out, HR2.out, hf.trans h6⟩)
theorem textC (w : World) (R : Nat) (a : Option Addr) (c : Nat) (bs : List Int) (at' b d : Nat) (most : Int) (h : RSt w R a c bs at' 0 0) (hb : w.cell? ⟨b, 0, none⟩ = some (.pointer (some ⟨R, 0, none⟩))) (hd : w.cell? ⟨d, 0, none⟩ = some (.int .i64 most)) :
    Calls Try.prog 128 #[.pointer (some ⟨b, 0, none⟩), .pointer (some ⟨d, 0, none⟩)] w (ElemPost w R a c bs (outOf (fun zs => Value.string (st zs)) (sizedO bs at' most))) := by
  have H := hide (sized_text w R a c bs at' most h)
  clear h
  cases hs : sizedO bs at' most with
  | inl code =>
    rw [hs] at H
    go_enter Try.func128, Try.ntmps128
    go_wp2_with ((go_at_call 129; refine (H.out).mono ?_; rintro e w1 ⟨rfl, h2⟩))
    exact ⟨rfl, rfl, h2⟩
  | inr x =>
    rw [hs] at H
    clear hs
    go_enter Try.func128, Try.ntmps128
    go_wp2_with ((go_at_call 129; refine (H.out).mono ?_; rintro e w2 ⟨v, rfl, h7, h5, h6⟩; have HR2 := hide h5; have H7 := hide h7; clear h5 h7))
    first | exact ⟨_, rfl, H7.out, HR2.out, h6⟩ | (go_ret; exact ⟨_, rfl, H7.out, HR2.out, h6⟩)
theorem bytesC (w0 w : World) (hw : w0.heap.size ≤ w.heap.size) (R : Nat) (a : Option Addr) (c : Nat) (bs : List Int) (at' b d : Nat) (most : Int) (h : RSt w R a c bs at' 0 0) (hb : w.cell? ⟨b, 0, none⟩ = some (.pointer (some ⟨R, 0, none⟩))) (hd : w.cell? ⟨d, 0, none⟩ = some (.int .i64 most)) :
    Calls Try.prog 132 #[.pointer (some ⟨b, 0, none⟩), .pointer (some ⟨d, 0, none⟩)] w (ElemPost w R a c bs (outB w0 (sizedO bs at' most))) := by
  have H := hide (sized_bytes w0 w hw R a c bs at' most h)
  clear h
  cases hs : sizedO bs at' most with
  | inl code =>
    rw [hs] at H
    go_enter Try.func132, Try.ntmps132
    go_wp2_with ((go_at_call 133; refine (H.out).mono ?_; rintro e w1 ⟨rfl, h2⟩))
    exact ⟨rfl, rfl, h2⟩
  | inr x =>
    rw [hs] at H
    clear hs
    go_enter Try.func132, Try.ntmps132
    go_wp2_with ((go_at_call 133; refine (H.out).mono ?_; rintro e w2 ⟨v, rfl, h7, h5, h6⟩; have HR2 := hide h5; have H7 := hide h7; clear h5 h7))
    first | exact ⟨_, rfl, H7.out, HR2.out, h6⟩ | (go_ret; exact ⟨_, rfl, H7.out, HR2.out, h6⟩)
/-! ### The calls -/
theorem ReadPost.pre {w w1 : World} {R : Nat} {a : Option Addr} {c : Nat} {bs : List Int} {at' : Nat} {zero : Value} {out : Out} {e : Ending} {w' : World} (hb : Below w.heap.size w w1) (h : ReadPost w1 R a c bs at' zero out e w') : ReadPost w R a c bs at' zero out e w' := by
  cases out with
  | inl code => exact ⟨h.1, h.2.1, (Fr.of_below hb).trans h.2.2⟩
  | inr x =>
    obtain ⟨v, h1, h2, h3, h4⟩ := h
    exact ⟨v, h1, h2, h3, (Fr.of_below hb).trans h4⟩
theorem Below.box {w W : World} {o : Obj} (h : Below (w.alloc o).heap.size (w.alloc o) W) : Below w.heap.size w W := (Below.alloc (Below.refl _ _) (Nat.le_refl _) o).trans (h.mono (by simp))
theorem word_none (w : World) (p : Option Addr) (h : NoR w p) (hp : ∀ S, p = some ⟨S, 0, none⟩ → S < w.heap.size) : Calls Try.prog 42 #[.pointer p] w fun e w' => e = .returned (.int .u64 0) ∧ Below w.heap.size w w' := by
  have H := hide (fun fv => read_none_word (w.alloc (.cells #[.pointer p] 48)) p fv (by
    rcases h with rfl | ⟨S, rfl, hc⟩
    · exact .inl rfl
    · exact .inr ⟨S, rfl, ((Below.alloc (Below.refl w.heap.size w) (Nat.le_refl _) _).cell (hp S rfl)).trans hc⟩) (fun S hS => by have := hp S hS; simp; omega))
  have hmf : ∀ (fn : Fn) (first cap : Array Value) (w : World), (Instr.makeFunc fn first cap).run Try.prog w = .ok (.func fn first cap) w := fun _ _ _ _ => rfl
  clear h hp
  go_enter Try.func42, Try.ntmps42
  go_wp2_with ((go_at_call 142; refine (H.out _).mono ?_; rintro e w1 ⟨rfl, h2⟩; have HB := hide h2; clear h2))
  go_ret
  exact ⟨rfl, Below.box HB.out⟩
theorem word_fault (w : World) (R : Nat) (a : Option Addr) (c : Nat) (bs : List Int) (at' : Nat) (fe fa : Int) (h : RSt w R a c bs at' fe fa) (he : fe ≠ 0) : Calls Try.prog 42 #[.pointer (some ⟨R, 0, none⟩)] w fun e w' => e = .returned (.int .u64 0) ∧ Below w.heap.size w w' := by
  have H := hide (fun fv => read_fault_word (w.alloc (.cells #[.pointer (some ⟨R, 0, none⟩)] 48)) R a c bs at' fe fa fv (h.below (Below.alloc (Below.refl _ _) (Nat.le_refl _) _)) he)
  have hmf : ∀ (fn : Fn) (first cap : Array Value) (w : World), (Instr.makeFunc fn first cap).run Try.prog w = .ok (.func fn first cap) w := fun _ _ _ _ => rfl
  clear h he
  go_enter Try.func42, Try.ntmps42
  go_wp2_with ((go_at_call 142; refine (H.out _).mono ?_; rintro e w1 ⟨rfl, h2⟩; have HB := hide h2; clear h2))
  go_ret
  exact ⟨rfl, Below.box HB.out⟩
theorem word_read (w : World) (R : Nat) (a : Option Addr) (c : Nat) (bs : List Int) (at' : Nat) (h : RSt w R a c bs at' 0 0) : Calls Try.prog 42 #[.pointer (some ⟨R, 0, none⟩)] w (ReadPost w R a c bs at' (.int .u64 0) (outOf (Value.int .u64) (wordO bs at'))) := by
  have H := hide (read_word (w.alloc (.cells #[.pointer (some ⟨R, 0, none⟩)] 48)) R a c bs at' (.pointer (some ⟨w.heap.size, 0, none⟩)) (outOf (Value.int .u64) (wordO bs at')) (h.below (Below.alloc (Below.refl _ _) (Nat.le_refl _) _))
    (fun W hb hR => wordC W R a c bs at' w.heap.size hR (((At.new w 48 [.pointer (some ⟨R, 0, none⟩)]).below hb (by simp)).cell 0)))
  have hmf : ∀ (fn : Fn) (first cap : Array Value) (w : World), (Instr.makeFunc fn first cap).run Try.prog w = .ok (.func fn first cap) w := fun _ _ _ _ => rfl
  have HB := hide (show Below w.heap.size w (w.alloc (.cells #[.pointer (some ⟨R, 0, none⟩)] 48)) from Below.alloc (Below.refl _ _) (Nat.le_refl _) _)
  generalize hO : outOf (Value.int .u64) (wordO bs at') = O at H ⊢
  clear h
  cases O with
  | inl code =>
    clear hO
    go_enter Try.func42, Try.ntmps42
    go_wp2_with ((go_at_call 142; refine (H.out).mono ?_; rintro e w1 ⟨rfl, h2⟩; have HH := hide h2; clear h2))
    go_ret
    exact ReadPost.pre HB.out ⟨rfl, HH.out⟩
  | inr x =>
    clear hO
    go_enter Try.func42, Try.ntmps42
    go_wp2_with ((go_at_call 142; refine (H.out).mono ?_; rintro e w1 ⟨v, rfl, h2⟩; have HH := hide h2; clear h2))
    first | exact ReadPost.pre HB.out ⟨_, rfl, HH.out⟩ | (go_ret; exact ReadPost.pre HB.out ⟨_, rfl, HH.out⟩)
theorem bool_none (w : World) (p : Option Addr) (h : NoR w p) (hp : ∀ S, p = some ⟨S, 0, none⟩ → S < w.heap.size) : Calls Try.prog 44 #[.pointer p] w fun e w' => e = .returned (.bool false) ∧ Below w.heap.size w w' := by
  have H := hide (fun fv => read_none_bool (w.alloc (.cells #[.pointer p] 48)) p fv (by
    rcases h with rfl | ⟨S, rfl, hc⟩
    · exact .inl rfl
    · exact .inr ⟨S, rfl, ((Below.alloc (Below.refl w.heap.size w) (Nat.le_refl _) _).cell (hp S rfl)).trans hc⟩) (fun S hS => by have := hp S hS; simp; omega))
  have hmf : ∀ (fn : Fn) (first cap : Array Value) (w : World), (Instr.makeFunc fn first cap).run Try.prog w = .ok (.func fn first cap) w := fun _ _ _ _ => rfl
  clear h hp
  go_enter Try.func44, Try.ntmps44
  go_wp2_with ((go_at_call 150; refine (H.out _).mono ?_; rintro e w1 ⟨rfl, h2⟩; have HB := hide h2; clear h2))
  go_ret
  exact ⟨rfl, Below.box HB.out⟩
theorem bool_fault (w : World) (R : Nat) (a : Option Addr) (c : Nat) (bs : List Int) (at' : Nat) (fe fa : Int) (h : RSt w R a c bs at' fe fa) (he : fe ≠ 0) : Calls Try.prog 44 #[.pointer (some ⟨R, 0, none⟩)] w fun e w' => e = .returned (.bool false) ∧ Below w.heap.size w w' := by
  have H := hide (fun fv => read_fault_bool (w.alloc (.cells #[.pointer (some ⟨R, 0, none⟩)] 48)) R a c bs at' fe fa fv (h.below (Below.alloc (Below.refl _ _) (Nat.le_refl _) _)) he)
  have hmf : ∀ (fn : Fn) (first cap : Array Value) (w : World), (Instr.makeFunc fn first cap).run Try.prog w = .ok (.func fn first cap) w := fun _ _ _ _ => rfl
  clear h he
  go_enter Try.func44, Try.ntmps44
  go_wp2_with ((go_at_call 150; refine (H.out _).mono ?_; rintro e w1 ⟨rfl, h2⟩; have HB := hide h2; clear h2))
  go_ret
  exact ⟨rfl, Below.box HB.out⟩
theorem bool_read (w : World) (R : Nat) (a : Option Addr) (c : Nat) (bs : List Int) (at' : Nat) (h : RSt w R a c bs at' 0 0) : Calls Try.prog 44 #[.pointer (some ⟨R, 0, none⟩)] w (ReadPost w R a c bs at' (.bool false) (outOf Value.bool (boolO bs at'))) := by
  have H := hide (read_bool (w.alloc (.cells #[.pointer (some ⟨R, 0, none⟩)] 48)) R a c bs at' (.pointer (some ⟨w.heap.size, 0, none⟩)) (outOf Value.bool (boolO bs at')) (h.below (Below.alloc (Below.refl _ _) (Nat.le_refl _) _))
    (fun W hb hR => boolC W R a c bs at' w.heap.size hR (((At.new w 48 [.pointer (some ⟨R, 0, none⟩)]).below hb (by simp)).cell 0)))
  have hmf : ∀ (fn : Fn) (first cap : Array Value) (w : World), (Instr.makeFunc fn first cap).run Try.prog w = .ok (.func fn first cap) w := fun _ _ _ _ => rfl
  have HB := hide (show Below w.heap.size w (w.alloc (.cells #[.pointer (some ⟨R, 0, none⟩)] 48)) from Below.alloc (Below.refl _ _) (Nat.le_refl _) _)
  generalize hO : outOf Value.bool (boolO bs at') = O at H ⊢
  clear h
  cases O with
  | inl code =>
    clear hO
    go_enter Try.func44, Try.ntmps44
    go_wp2_with ((go_at_call 150; refine (H.out).mono ?_; rintro e w1 ⟨rfl, h2⟩; have HH := hide h2; clear h2))
    go_ret
    exact ReadPost.pre HB.out ⟨rfl, HH.out⟩
  | inr x =>
    clear hO
    go_enter Try.func44, Try.ntmps44
    go_wp2_with ((go_at_call 150; refine (H.out).mono ?_; rintro e w1 ⟨v, rfl, h2⟩; have HH := hide h2; clear h2))
    first | exact ReadPost.pre HB.out ⟨_, rfl, HH.out⟩ | (go_ret; exact ReadPost.pre HB.out ⟨_, rfl, HH.out⟩)
end WirK
end Go.Proofs.Ythcemghamdmjmaa

namespace Go.Proofs.Ythcemghamdmjmaa
namespace WirL
open Go.RowKit
open BlkM WirM WirS WirA WirB WirE WirF WirG WirH WirI WirJ WirK

theorem num_none (w : World) (p : Option Addr) (h : NoR w p) (hp : ∀ S, p = some ⟨S, 0, none⟩ → S < w.heap.size) : Calls Try.prog 37 #[.pointer p] w fun e w' => e = .returned (.int .i64 0) ∧ Below w.heap.size w w' := by
  have H := hide (fun fv => read_none_int w p fv h hp)
  have hmf : ∀ (fn : Fn) (first cap : Array Value) (w : World), (Instr.makeFunc fn first cap).run Try.prog w = .ok (.func fn first cap) w := fun _ _ _ _ => rfl
  clear h hp
  go_enter Try.func37, Try.ntmps37
  go_wp2_with ((go_at_call 125; refine (H.out _).mono ?_; rintro e w1 ⟨rfl, h2⟩; have HB := hide h2; clear h2))
  go_ret
  exact ⟨rfl, HB.out⟩
theorem num_fault (w : World) (R : Nat) (a : Option Addr) (c : Nat) (bs : List Int) (at' : Nat) (fe fa : Int) (h : RSt w R a c bs at' fe fa) (he : fe ≠ 0) : Calls Try.prog 37 #[.pointer (some ⟨R, 0, none⟩)] w fun e w' => e = .returned (.int .i64 0) ∧ Below w.heap.size w w' := by
  have H := hide (fun fv => read_fault_int w R a c bs at' fe fa fv h he)
  have hmf : ∀ (fn : Fn) (first cap : Array Value) (w : World), (Instr.makeFunc fn first cap).run Try.prog w = .ok (.func fn first cap) w := fun _ _ _ _ => rfl
  clear h he
  go_enter Try.func37, Try.ntmps37
  go_wp2_with ((go_at_call 125; refine (H.out _).mono ?_; rintro e w1 ⟨rfl, h2⟩; have HB := hide h2; clear h2))
  go_ret
  exact ⟨rfl, HB.out⟩
theorem num_read (w : World) (R : Nat) (a : Option Addr) (c : Nat) (bs : List Int) (at' : Nat) (h : RSt w R a c bs at' 0 0) : Calls Try.prog 37 #[.pointer (some ⟨R, 0, none⟩)] w (ReadPost w R a c bs at' (.int .i64 0) (outOf (Value.int .i64) (numO bs at'))) := by
  have H := hide (read_int w R a c bs at' (.pointer (some ⟨R, 0, none⟩)) (outOf (Value.int .i64) (numO bs at')) h (fun W _ hR => takeNumber_any W R a c bs at' hR))
  have hmf : ∀ (fn : Fn) (first cap : Array Value) (w : World), (Instr.makeFunc fn first cap).run Try.prog w = .ok (.func fn first cap) w := fun _ _ _ _ => rfl
  generalize hO : outOf (Value.int .i64) (numO bs at') = O at H ⊢
  clear h
  cases O with
  | inl code =>
    clear hO
    go_enter Try.func37, Try.ntmps37
    go_wp2_with ((go_at_call 125; refine (H.out).mono ?_; rintro e w1 ⟨rfl, h2⟩; have HH := hide h2; clear h2))
    go_ret
    exact ⟨rfl, HH.out⟩
  | inr x =>
    clear hO
    go_enter Try.func37, Try.ntmps37
    go_wp2_with ((go_at_call 125; refine (H.out).mono ?_; rintro e w1 ⟨v, rfl, h2⟩; have HH := hide h2; clear h2))
    first | exact ⟨_, rfl, HH.out⟩ | (go_ret; exact ⟨_, rfl, HH.out⟩)
/-- The world behind two boxes. -/
def W2 (w : World) (p : Value) (most : Int) : World := (w.alloc (.cells #[p] 48)).alloc (.cells #[.int .i64 most] 3)
theorem W2_below (w : World) (p : Value) (most : Int) : Below w.heap.size w (W2 w p most) := Below.alloc (Below.alloc (Below.refl _ _) (Nat.le_refl _) _) (by simp) _
theorem W2_at1 (w : World) (p : Value) (most : Int) : At (W2 w p most) w.heap.size 48 [p] := At.alloc (At.new w _ [_]) _
theorem W2_at2 (w : World) (p : Value) (most : Int) : At (W2 w p most) (w.heap.size + 1) 3 [.int .i64 most] := by
  have := At.new (w.alloc (.cells #[p] 48)) 3 [.int .i64 most]
  rw [World.size_alloc] at this
  exact this
theorem Below.two {w W : World} {p : Value} {most : Int} (h : Below (W2 w p most).heap.size (W2 w p most) W) : Below w.heap.size w W := (W2_below w p most).trans (h.mono (W2_below w p most).size)
theorem text_none (w : World) (p : Option Addr) (most : Int) (h : NoR w p) (hp : ∀ S, p = some ⟨S, 0, none⟩ → S < w.heap.size) : Calls Try.prog 38 #[.pointer p, .int .i64 most] w fun e w' => e = .returned (.string ⟨#[]⟩) ∧ Below w.heap.size w w' := by
  have H := hide (fun fv => read_none_text (W2 w (.pointer p) most) p fv (by
    rcases h with rfl | ⟨S, rfl, hc⟩
    · exact .inl rfl
    · exact .inr ⟨S, rfl, ((W2_below w _ most).cell (hp S rfl)).trans hc⟩) (fun S hS => Nat.lt_of_lt_of_le (hp S hS) (W2_below w _ most).size))
  obtain ⟨W0, e0⟩ : ∃ X, X = W2 w (.pointer p) most := ⟨_, rfl⟩
  rw [← e0] at H
  have E0 := hide e0
  have hmf : ∀ (fn : Fn) (first cap : Array Value) (w : World), (Instr.makeFunc fn first cap).run Try.prog w = .ok (.func fn first cap) w := fun _ _ _ _ => rfl
  have hc : W0.cell? ⟨w.heap.size, 0, none⟩ = some (.pointer p) := by rw [e0]; exact (W2_at1 _ _ _).cell 0
  clear h hp e0
  go_enter Try.func38, Try.ntmps38
  go_upto_region 1 with fail
  rw [show (w.alloc (.cells #[.pointer p] 48)).alloc (.cells #[.int .i64 most] 3) = W0 from E0.out.symm]
  go_wp2_with ((go_at_call 127; refine (H.out _).mono ?_; rintro e w1 ⟨rfl, h2⟩; have HB := hide h2; clear h2))
  go_ret
  have hb := HB.out
  rw [E0.out] at hb
  exact ⟨rfl, Below.two hb⟩
theorem text_fault (w : World) (R : Nat) (a : Option Addr) (c : Nat) (bs : List Int) (at' : Nat) (fe fa most : Int) (h : RSt w R a c bs at' fe fa) (he : fe ≠ 0) : Calls Try.prog 38 #[.pointer (some ⟨R, 0, none⟩), .int .i64 most] w fun e w' => e = .returned (.string ⟨#[]⟩) ∧ Below w.heap.size w w' := by
  have H := hide (fun fv => read_fault_text (W2 w (.pointer (some ⟨R, 0, none⟩)) most) R a c bs at' fe fa fv (h.below (W2_below _ _ _)) he)
  obtain ⟨W0, e0⟩ : ∃ X, X = W2 w (.pointer (some ⟨R, 0, none⟩)) most := ⟨_, rfl⟩
  rw [← e0] at H
  have E0 := hide e0
  have hmf : ∀ (fn : Fn) (first cap : Array Value) (w : World), (Instr.makeFunc fn first cap).run Try.prog w = .ok (.func fn first cap) w := fun _ _ _ _ => rfl
  have hc : W0.cell? ⟨w.heap.size, 0, none⟩ = some (.pointer (some ⟨R, 0, none⟩)) := by rw [e0]; exact (W2_at1 _ _ _).cell 0
  clear h he e0
  go_enter Try.func38, Try.ntmps38
  go_upto_region 1 with fail
  rw [show (w.alloc (.cells #[.pointer (some ⟨R, 0, none⟩)] 48)).alloc (.cells #[.int .i64 most] 3) = W0 from E0.out.symm]
  go_wp2_with ((go_at_call 127; refine (H.out _).mono ?_; rintro e w1 ⟨rfl, h2⟩; have HB := hide h2; clear h2))
  go_ret
  have hb := HB.out
  rw [E0.out] at hb
  exact ⟨rfl, Below.two hb⟩
theorem text_read (w : World) (R : Nat) (a : Option Addr) (c : Nat) (bs : List Int) (at' : Nat) (most : Int) (h : RSt w R a c bs at' 0 0) : Calls Try.prog 38 #[.pointer (some ⟨R, 0, none⟩), .int .i64 most] w (ReadPost w R a c bs at' (.string ⟨#[]⟩) (outOf (fun zs => Value.string (st zs)) (sizedO bs at' most))) := by
  have H := hide (read_text (W2 w (.pointer (some ⟨R, 0, none⟩)) most) R a c bs at' (.pointer (some ⟨w.heap.size, 0, none⟩)) (.pointer (some ⟨w.heap.size + 1, 0, none⟩)) (outOf (fun zs => Value.string (st zs)) (sizedO bs at' most)) (h.below (W2_below _ _ _))
    (fun W hb hR => textC W R a c bs at' w.heap.size (w.heap.size + 1) most hR (((W2_at1 _ _ _).below hb (W2_at1 _ _ _).lt).cell 0) (((W2_at2 _ _ _).below hb (W2_at2 _ _ _).lt).cell 0)))
  obtain ⟨W0, e0⟩ : ∃ X, X = W2 w (.pointer (some ⟨R, 0, none⟩)) most := ⟨_, rfl⟩
  have HB := hide (W2_below w (.pointer (some ⟨R, 0, none⟩)) most)
  rw [← e0] at H HB
  have E0 := hide e0
  have hmf : ∀ (fn : Fn) (first cap : Array Value) (w : World), (Instr.makeFunc fn first cap).run Try.prog w = .ok (.func fn first cap) w := fun _ _ _ _ => rfl
  have hc : W0.cell? ⟨w.heap.size, 0, none⟩ = some (.pointer (some ⟨R, 0, none⟩)) := by rw [e0]; exact (W2_at1 _ _ _).cell 0
  generalize hO : outOf (fun zs => Value.string (st zs)) (sizedO bs at' most) = O at H ⊢
  clear h e0
  cases O with
  | inl code =>
    clear hO
    go_enter Try.func38, Try.ntmps38
    go_upto_region 1 with fail
    rw [show (w.alloc (.cells #[.pointer (some ⟨R, 0, none⟩)] 48)).alloc (.cells #[.int .i64 most] 3) = W0 from E0.out.symm]
    go_wp2_with ((go_at_call 127; refine (H.out).mono ?_; rintro e w1 ⟨rfl, h2⟩; have HH := hide h2; clear h2))
    go_ret
    exact ReadPost.pre HB.out ⟨rfl, HH.out⟩
  | inr x =>
    clear hO
    go_enter Try.func38, Try.ntmps38
    go_upto_region 1 with fail
    rw [show (w.alloc (.cells #[.pointer (some ⟨R, 0, none⟩)] 48)).alloc (.cells #[.int .i64 most] 3) = W0 from E0.out.symm]
    go_wp2_with ((go_at_call 127; refine (H.out).mono ?_; rintro e w1 ⟨v, rfl, h2⟩; have HH := hide h2; clear h2))
    first | exact ReadPost.pre HB.out ⟨_, rfl, HH.out⟩ | (go_ret; exact ReadPost.pre HB.out ⟨_, rfl, HH.out⟩)
theorem bytes_none (w : World) (p : Option Addr) (most : Int) (h : NoR w p) (hp : ∀ S, p = some ⟨S, 0, none⟩ → S < w.heap.size) : Calls Try.prog 39 #[.pointer p, .int .i64 most] w fun e w' => e = .returned (.slice none 0 0) ∧ Below w.heap.size w w' := by
  have H := hide (fun fv => read_none_bytes (W2 w (.pointer p) most) p fv (by
    rcases h with rfl | ⟨S, rfl, hc⟩
    · exact .inl rfl
    · exact .inr ⟨S, rfl, ((W2_below w _ most).cell (hp S rfl)).trans hc⟩) (fun S hS => Nat.lt_of_lt_of_le (hp S hS) (W2_below w _ most).size))
  obtain ⟨W0, e0⟩ : ∃ X, X = W2 w (.pointer p) most := ⟨_, rfl⟩
  rw [← e0] at H
  have E0 := hide e0
  have hmf : ∀ (fn : Fn) (first cap : Array Value) (w : World), (Instr.makeFunc fn first cap).run Try.prog w = .ok (.func fn first cap) w := fun _ _ _ _ => rfl
  have hc : W0.cell? ⟨w.heap.size, 0, none⟩ = some (.pointer p) := by rw [e0]; exact (W2_at1 _ _ _).cell 0
  clear h hp e0
  go_enter Try.func39, Try.ntmps39
  go_upto_region 1 with fail
  rw [show (w.alloc (.cells #[.pointer p] 48)).alloc (.cells #[.int .i64 most] 3) = W0 from E0.out.symm]
  go_wp2_with ((go_at_call 131; refine (H.out _).mono ?_; rintro e w1 ⟨rfl, h2⟩; have HB := hide h2; clear h2))
  go_ret
  have hb := HB.out
  rw [E0.out] at hb
  exact ⟨rfl, Below.two hb⟩
theorem bytes_fault (w : World) (R : Nat) (a : Option Addr) (c : Nat) (bs : List Int) (at' : Nat) (fe fa most : Int) (h : RSt w R a c bs at' fe fa) (he : fe ≠ 0) : Calls Try.prog 39 #[.pointer (some ⟨R, 0, none⟩), .int .i64 most] w fun e w' => e = .returned (.slice none 0 0) ∧ Below w.heap.size w w' := by
  have H := hide (fun fv => read_fault_bytes (W2 w (.pointer (some ⟨R, 0, none⟩)) most) R a c bs at' fe fa fv (h.below (W2_below _ _ _)) he)
  obtain ⟨W0, e0⟩ : ∃ X, X = W2 w (.pointer (some ⟨R, 0, none⟩)) most := ⟨_, rfl⟩
  rw [← e0] at H
  have E0 := hide e0
  have hmf : ∀ (fn : Fn) (first cap : Array Value) (w : World), (Instr.makeFunc fn first cap).run Try.prog w = .ok (.func fn first cap) w := fun _ _ _ _ => rfl
  have hc : W0.cell? ⟨w.heap.size, 0, none⟩ = some (.pointer (some ⟨R, 0, none⟩)) := by rw [e0]; exact (W2_at1 _ _ _).cell 0
  clear h he e0
  go_enter Try.func39, Try.ntmps39
  go_upto_region 1 with fail
  rw [show (w.alloc (.cells #[.pointer (some ⟨R, 0, none⟩)] 48)).alloc (.cells #[.int .i64 most] 3) = W0 from E0.out.symm]
  go_wp2_with ((go_at_call 131; refine (H.out _).mono ?_; rintro e w1 ⟨rfl, h2⟩; have HB := hide h2; clear h2))
  go_ret
  have hb := HB.out
  rw [E0.out] at hb
  exact ⟨rfl, Below.two hb⟩
theorem bytes_read (w : World) (R : Nat) (a : Option Addr) (c : Nat) (bs : List Int) (at' : Nat) (most : Int) (h : RSt w R a c bs at' 0 0) : Calls Try.prog 39 #[.pointer (some ⟨R, 0, none⟩), .int .i64 most] w (ReadPost w R a c bs at' (.slice none 0 0) (outB w (sizedO bs at' most))) := by
  have H := hide (read_bytes (W2 w (.pointer (some ⟨R, 0, none⟩)) most) R a c bs at' (.pointer (some ⟨w.heap.size, 0, none⟩)) (.pointer (some ⟨w.heap.size + 1, 0, none⟩)) (outB w (sizedO bs at' most)) (h.below (W2_below _ _ _))
    (fun W hb hR => bytesC w W (Nat.le_trans (W2_below _ _ _).size hb.size) R a c bs at' w.heap.size (w.heap.size + 1) most hR (((W2_at1 _ _ _).below hb (W2_at1 _ _ _).lt).cell 0) (((W2_at2 _ _ _).below hb (W2_at2 _ _ _).lt).cell 0)))
  obtain ⟨W0, e0⟩ : ∃ X, X = W2 w (.pointer (some ⟨R, 0, none⟩)) most := ⟨_, rfl⟩
  have HB := hide (W2_below w (.pointer (some ⟨R, 0, none⟩)) most)
  rw [← e0] at H HB
  have E0 := hide e0
  have hmf : ∀ (fn : Fn) (first cap : Array Value) (w : World), (Instr.makeFunc fn first cap).run Try.prog w = .ok (.func fn first cap) w := fun _ _ _ _ => rfl
  have hc : W0.cell? ⟨w.heap.size, 0, none⟩ = some (.pointer (some ⟨R, 0, none⟩)) := by rw [e0]; exact (W2_at1 _ _ _).cell 0
  generalize hO : outB w (sizedO bs at' most) = O at H ⊢
  clear h e0
  cases O with
  | inl code =>
    clear hO
    go_enter Try.func39, Try.ntmps39
    go_upto_region 1 with fail
    rw [show (w.alloc (.cells #[.pointer (some ⟨R, 0, none⟩)] 48)).alloc (.cells #[.int .i64 most] 3) = W0 from E0.out.symm]
    go_wp2_with ((go_at_call 131; refine (H.out).mono ?_; rintro e w1 ⟨rfl, h2⟩; have HH := hide h2; clear h2))
    go_ret
    exact ReadPost.pre HB.out ⟨rfl, HH.out⟩
  | inr x =>
    clear hO
    go_enter Try.func39, Try.ntmps39
    go_upto_region 1 with fail
    rw [show (w.alloc (.cells #[.pointer (some ⟨R, 0, none⟩)] 48)).alloc (.cells #[.int .i64 most] 3) = W0 from E0.out.symm]
    go_wp2_with ((go_at_call 131; refine (H.out).mono ?_; rintro e w1 ⟨v, rfl, h2⟩; have HH := hide h2; clear h2))
    first | exact ReadPost.pre HB.out ⟨_, rfl, HH.out⟩ | (go_ret; exact ReadPost.pre HB.out ⟨_, rfl, HH.out⟩)
/-! ### Rest, End, NewReader -/
theorem rest_none (w : World) (p : Option Addr) (h : NoR w p) : Calls Try.prog 33 #[.pointer p] w fun e w' => e = .returned (.int .i64 0) ∧ w = w' := by
  have H := hide (reads_none w p h)
  clear h
  go_enter Try.func33, Try.ntmps33
  go_wp2_with ((go_at_call 123; refine (H.out).mono ?_; rintro e w1 ⟨rfl, rfl⟩))
  go_ret
  exact ⟨rfl, rfl⟩
def restN (bs : List Int) (at' : Nat) (fe : Int) : Int := if fe = 0 then (bs.length : Int) - (at' : Int) else 0
theorem rest_any (w : World) (R : Nat) (a : Option Addr) (c : Nat) (bs : List Int) (at' : Nat) (fe fa : Int) (h : RSt w R a c bs at' fe fa) : Calls Try.prog 33 #[.pointer (some ⟨R, 0, none⟩)] w fun e w' => e = .returned (.int .i64 (restN bs at' fe)) ∧ ∃ q, w' = w.drewN q := by
  have H := hide (reads_any w R a c bs at' fe fa h)
  by_cases he : fe = 0
  · subst he
    rw [show restN bs at' 0 = (bs.length : Int) - (at' : Int) from rfl]
    have c1 : w.cell? ⟨R, 1, none⟩ = some (.slice a bs.length c) := by rw [h.cell.cell]; rfl
    have c2 : w.cell? ⟨R, 2, none⟩ = some (.int .i64 (at' : Int)) := by rw [h.cell.cell]; rfl
    have hle := h.le
    have hsm := h.small
    obtain ⟨k, hk⟩ : ∃ k, k = bs.length := ⟨_, rfl⟩
    rw [← hk] at c1 hle hsm ⊢
    have w1 : IntKind.i64.wrap (↑k - ↑at') = (k : Int) - (at' : Int) := IntWalk.i64_in _ (by omega)
    clear h hk
    go_enter Try.func33, Try.ntmps33
    go_upto_region 3 with ((go_at_call 123; refine (H.out).mono ?_; rintro e w1 ⟨rfl, rfl⟩))
    go_quiet (fail)
    go_wp2_with fail
    go_ret
    exact ⟨rfl, _, rfl⟩
  · rw [show restN bs at' fe = 0 by unfold restN; rw [if_neg he]]
    have e0 : (fe == 0) = false := by simpa using he
    rw [e0] at H
    clear h he e0
    go_enter Try.func33, Try.ntmps33
    go_wp2_with ((go_at_call 123; refine (H.out).mono ?_; rintro e w1 ⟨rfl, rfl⟩))
    go_ret
    exact ⟨rfl, 0, rfl⟩
end WirL
end Go.Proofs.Ythcemghamdmjmaa

namespace Go.Proofs.Ythcemghamdmjmaa
namespace ValBK
open Go.RowKit
open BlkM WirM WirS

theorem slB (a : Option Addr) (len cap m : Nat) (h : m ≤ cap) (Y : World) : (Instr.sliceAt 32 (.slice a len cap) none (some (.int .i64 (m : Int))) none).run Try.prog Y = .ok (.slice (WirH.sa a cap 0) m (cap - 0)) Y := by
  have hu : Try.prog.underlying 32 = some (.slice (Try.prog.elem 32)) := by kernel_rfl
  rw [run_sliceAt_slice Y 32 _ _ _ _ hu, run_slice_h Y 32 a len cap hu .i64 (m : Int) (by omega) (by omega)]
  have hs : (sizeOf (Try.prog.elem 32)).run Try.prog Y = .ok 1 Y := by kernel_rfl
  rw [hs]
  simp [sliced, WirH.sa]
/-- A slice cut at its end. -/
theorem sSh {P : Program} {ops : Array Oper} {rest : List Oper} {o : Oper} {a : Act} {w : World} {Q : Exit → Act → World → Prop} (hw : Region.wanted o (yielded ops a.tmps) = true) (ty : TypeId) (x y : Operand) (ho : o.op = .slice ty x none (some y) none) (p m v : Value) (hx : a.eval x = p) (hy : a.eval y = m)
    (hr : (Instr.sliceAt ty p none (some m) none).run P w = .ok v w) (h : wpList P ops Q rest (a.put o.dst v) w) : wpList P ops Q (o :: rest) a w :=
  sV v w hw (by
    unfold execOp
    simp only [ho, hx, hy, Option.map_none, Option.map_some, Sem.run_bind, hr, Result.andThen_ok, Sem.run_pure]) h
end ValBK
namespace ValDD
open Go.RowKit
open BlkM WirM WirS

theorem bin_keep {X : Nat → Prop} {w U U' : World} {a : Option Addr} {n c : Nat} {bs : List Int} (h : BIn w (.slice a n c) bs) (hU : BIn U (.slice a n c) bs) (hf : Fr X U U') (hX : ∀ k, X k → w.heap.size ≤ k) : BIn U' (.slice a n c) bs := by
  obtain ⟨a', c', e, hc, hz⟩ := h
  cases e
  obtain ⟨a2, c2, e2, hc2, hz2⟩ := hU
  cases e2
  refine ⟨_, _, rfl, hc, fun hne => ?_⟩
  obtain ⟨B, o, e, hB, _⟩ := hz hne
  subst e
  obtain ⟨B2, o2, e2, hB2, hcell⟩ := hz2 hne
  cases e2
  have hx : ¬ X B := fun hx => by have := hX B hx; omega
  exact ⟨B, o, rfl, Nat.lt_of_lt_of_le hB2 hf.size, fun i hi => (hf.cell (p := ⟨B, _, none⟩) hB2 hx).trans (hcell i hi)⟩
end ValDD
end Go.Proofs.Ythcemghamdmjmaa

