/-
  ValK0, in one text.
-/
import Derived.Test.YtfmegeibnjmfpaaDoorPdG
namespace Go.Proofs.YtfmegeibnjmfpaaDoor
namespace ValK
open Go.RowKit
open BlkM WirM WirS
open WirG (RSt)
open WirH (bin_sub)
open WirJ (numO outOf)
open WirK (numO_ok)
open WirI (ReadPost)
open WirO (rowO)
open WirP (aggB)
open WirT (fault endE endA)
open WirX (Thg Bag)
open WirAA (num_code row_code)
open WirRT (rng)

/-- A fault, or where the reader stands. -/
abbrev St := Sum (Int × Int) Nat
/-- A reader in such a state. -/
def rdS (R : Nat) (a : Option Addr) (c : Nat) (bs : List Int) (s : St) : Thg where
  ok w := match s with
    | .inl f => f.1 ≠ 0 ∧ ∃ p, RSt w R a c bs p f.1 f.2
    | .inr p => RSt w R a c bs p 0 0
  foot k := k = R ∨ (Value.slice a bs.length c).ownBlock = some k
  stable {X w w'} h hf hX := by
    cases s with
    | inl f => exact ⟨h.1, h.2.imp fun p hp => hp.fr hf (hX R (.inl rfl)) (fun k hk => hX k (.inr hk))⟩
    | inr p => exact RSt.fr h hf (hX R (.inl rfl)) (fun k hk => hX k (.inr hk))
  inside {w} h k hk := by
    cases s with
    | inl f =>
      obtain ⟨p, hp⟩ := h.2
      rcases hk with rfl | hk
      · exact hp.lt
      · exact hp.olt k hk
    | inr p =>
      have hp : RSt w R a c bs p 0 0 := h
      rcases hk with rfl | hk
      · exact hp.lt
      · exact hp.olt k hk
theorem bag_rdS {w0 w w' : World} {l : List Thg} {R : Nat} {a : Option Addr} {c : Nat} {bs : List Int} (h : Bag w0 w l) (hR : w.heap.size ≤ R) (hs : RSt w' R a c bs 0 0 0) (hn : WirE.NewB w (.slice a bs.length c)) (hb : Below w.heap.size w w') : Bag w0 w' (rdS R a c bs (.inr 0) :: l) :=
  h.new hb hs (fun k hk => by
    rcases hk with rfl | hk
    · exact hR
    · exact hn k hk)
/-- A number is read; a key is. -/
def rN (bs : List Int) : St → Int × St
  | .inl f => (0, .inl f)
  | .inr p => match numO bs p with
    | .inl c => (0, .inl (c, (p : Int)))
    | .inr x => (x.1, .inr x.2)
theorem rN_ok {bs : List Int} (hr : rng bs) (s : St) : 0 ≤ (rN bs s).1 ∧ (rN bs s).1 ≤ 9223372036854775807 := by
  unfold rN
  cases s with
  | inl f => simp
  | inr p =>
    cases h : numO bs p with
    | inl c => simp [h]
    | inr x =>
      simp only [h]
      have := numO_ok hr h
      omega
/-- What the reader tells in the end. -/
def endS (bs : List Int) : St → Int × Int
  | .inl f => f
  | .inr p => if p < bs.length then (4, (p : Int)) else (0, 0)
/-! ### The calls -/
theorem s_num {w0 w : World} {l : List Thg} {R : Nat} {a : Option Addr} {c : Nat} {bs : List Int} {s : St} (h : Bag w0 w (rdS R a c bs s :: l)) :
    Calls Tryd.prog 73 #[.pointer (some ⟨R, 0, none⟩)] w fun e w' => e = .returned (.int .i64 (rN bs s).1) ∧ Bag w0 w' (rdS R a c bs (rN bs s).2 :: l) := by
  cases s with
  | inl f =>
    obtain ⟨hne, p, hp⟩ := h.head
    exact (WirL.num_fault w R a c bs p f.1 f.2 hp hne).mono fun e w' ⟨h1, h2⟩ => ⟨h1, h.more h2⟩
  | inr p =>
    have hp : RSt w R a c bs p 0 0 := h.head
    refine (WirL.num_read w R a c bs p hp).mono fun e w' hq => ?_
    unfold rN
    cases ho : numO bs p with
    | inl c =>
      rw [ho] at hq
      obtain ⟨h1, h2, h3⟩ := hq
      simp only [ho]
      exact ⟨h1, h.act (h3.mono fun _ _ hx => .inl hx) ⟨num_code ho, h2⟩ (fun _ hk => .inl hk)⟩
    | inr x =>
      rw [ho] at hq
      obtain ⟨v, h1, h2, h3, h4⟩ := hq
      simp only [ho]
      exact ⟨by rw [h1, h2], h.act (h4.mono fun _ _ hx => .inl hx) h3 (fun _ hk => .inl hk)⟩
theorem s_end {w0 w : World} {l : List Thg} {R : Nat} {a : Option Addr} {c : Nat} {bs : List Int} {s : St} (h : Bag w0 w (rdS R a c bs s :: l)) :
    Calls Tryd.prog 75 #[.pointer (some ⟨R, 0, none⟩)] w fun e w' => e = .returned (.agg #[.int .i64 (endS bs s).1, .int .i64 (endS bs s).2]) ∧ Bag w0 w' (rdS R a c bs s :: l) := by
  cases s with
  | inl f =>
    obtain ⟨hne, p, hp⟩ := h.head
    refine (WirT.end_any w R a c bs p f.1 f.2 hp).mono fun e w' ⟨h1, h2⟩ => ⟨?_, h.more h2⟩
    have h0 : ¬ 0 < WirL.restN bs p f.1 := by unfold WirL.restN; rw [if_neg hne]; omega
    rw [h1]
    unfold fault endE endA
    rw [if_neg h0, if_neg h0]
    rfl
  | inr p =>
    have hp : RSt w R a c bs p 0 0 := h.head
    refine (WirT.end_any w R a c bs p 0 0 hp).mono fun e w' ⟨h1, h2⟩ => ⟨?_, h.more h2⟩
    rw [h1]
    have hle := hp.le
    unfold fault endE endA WirL.restN endS
    by_cases hlt : p < bs.length
    · simp [hlt]
    · have : p = bs.length := by omega
      simp [this]
end ValK
end Go.Proofs.YtfmegeibnjmfpaaDoor

