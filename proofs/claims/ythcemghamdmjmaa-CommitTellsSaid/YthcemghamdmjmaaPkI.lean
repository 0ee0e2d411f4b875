/-
  ValK0, ValSC, ValSD, ValSE0, in one text.
-/
import Derived.Test.YthcemghamdmjmaaPkG
import Derived.Test.YthcemghamdmjmaaPkH
namespace Go.Proofs.Ythcemghamdmjmaa
namespace ValK
open Go.RowKit
open BlkM WirM WirS
open WirG (RSt)
open WirH (bin_sub)
open WirJ (numO outOf)
open WirK (numO_ok)
open WirI (ReadPost)
open WirO (rowO)
open WirP (aggB)
open WirT (fault endE endA)
open WirX (Thg Bag rdr bag_rdr)
open WirAA (num_code row_code)
open WirRT (rng)

/-- A fault, or where the reader stands. -/
abbrev St := Sum (Int × Int) Nat
/-- A reader in such a state. -/
def rdS (R : Nat) (a : Option Addr) (c : Nat) (bs : List Int) (s : St) : Thg where
  ok w := match s with
    | .inl f => f.1 ≠ 0 ∧ ∃ p, RSt w R a c bs p f.1 f.2
    | .inr p => RSt w R a c bs p 0 0
  foot k := k = R ∨ (Value.slice a bs.length c).ownBlock = some k
  stable {X w w'} h hf hX := by
    cases s with
    | inl f => exact ⟨h.1, h.2.imp fun p hp => hp.fr hf (hX R (.inl rfl)) (fun k hk => hX k (.inr hk))⟩
    | inr p => exact RSt.fr h hf (hX R (.inl rfl)) (fun k hk => hX k (.inr hk))
  inside {w} h k hk := by
    cases s with
    | inl f =>
      obtain ⟨p, hp⟩ := h.2
      rcases hk with rfl | hk
      · exact hp.lt
      · exact hp.olt k hk
    | inr p =>
      have hp : RSt w R a c bs p 0 0 := h
      rcases hk with rfl | hk
      · exact hp.lt
      · exact hp.olt k hk
theorem bag_rdS {w0 w w' : World} {l : List Thg} {R : Nat} {a : Option Addr} {c : Nat} {bs : List Int} (h : Bag w0 w l) (hR : w.heap.size ≤ R) (hs : RSt w' R a c bs 0 0 0) (hn : WirE.NewB w (.slice a bs.length c)) (hb : Below w.heap.size w w') : Bag w0 w' (rdS R a c bs (.inr 0) :: l) :=
  h.new hb hs (fun k hk => by
    rcases hk with rfl | hk
    · exact hR
    · exact hn k hk)
/-- A number is read; a key is. -/
def rN (bs : List Int) : St → Int × St
  | .inl f => (0, .inl f)
  | .inr p => match numO bs p with
    | .inl c => (0, .inl (c, (p : Int)))
    | .inr x => (x.1, .inr x.2)
def rK (bs : List Int) : St → List Int × St
  | .inl f => ([0, 0, 0, 0], .inl f)
  | .inr p => match rowO 4 bs p with
    | .inl c => ([0, 0, 0, 0], .inl (c, (p : Int)))
    | .inr x => (x.1, .inr x.2)
theorem rK_len (bs : List Int) (s : St) : (rK bs s).1.length = 4 := by
  unfold rK
  cases s with
  | inl f => rfl
  | inr p =>
    cases h : rowO 4 bs p with
    | inl c => simp only [h]; rfl
    | inr x =>
      simp only [h]
      unfold rowO at h
      split at h
      · cases h
      · cases h
        simp only [List.length_take, List.length_drop]
        omega
theorem rK_rng {bs : List Int} (hr : rng bs) (s : St) : rng (rK bs s).1 := by
  unfold rK
  cases s with
  | inl f => intro x hx; simp at hx; omega
  | inr p =>
    cases h : rowO 4 bs p with
    | inl c => simp only [h]; intro x hx; simp at hx; omega
    | inr x =>
      simp only [h]
      unfold rowO at h
      split at h
      · cases h
      · cases h
        exact WirRT.rng_part hr p 4
theorem rN_ok {bs : List Int} (hr : rng bs) (s : St) : 0 ≤ (rN bs s).1 ∧ (rN bs s).1 ≤ 9223372036854775807 := by
  unfold rN
  cases s with
  | inl f => simp
  | inr p =>
    cases h : numO bs p with
    | inl c => simp [h]
    | inr x =>
      simp only [h]
      have := numO_ok hr h
      omega
/-- What the reader tells in the end. -/
def endS (bs : List Int) : St → Int × Int
  | .inl f => f
  | .inr p => if p < bs.length then (4, (p : Int)) else (0, 0)
/-! ### The calls -/
theorem s_num {w0 w : World} {l : List Thg} {R : Nat} {a : Option Addr} {c : Nat} {bs : List Int} {s : St} (h : Bag w0 w (rdS R a c bs s :: l)) :
    Calls Try.prog 37 #[.pointer (some ⟨R, 0, none⟩)] w fun e w' => e = .returned (.int .i64 (rN bs s).1) ∧ Bag w0 w' (rdS R a c bs (rN bs s).2 :: l) := by
  cases s with
  | inl f =>
    obtain ⟨hne, p, hp⟩ := h.head
    exact (WirL.num_fault w R a c bs p f.1 f.2 hp hne).mono fun e w' ⟨h1, h2⟩ => ⟨h1, h.more h2⟩
  | inr p =>
    have hp : RSt w R a c bs p 0 0 := h.head
    refine (WirL.num_read w R a c bs p hp).mono fun e w' hq => ?_
    unfold rN
    cases ho : numO bs p with
    | inl c =>
      rw [ho] at hq
      obtain ⟨h1, h2, h3⟩ := hq
      simp only [ho]
      exact ⟨h1, h.act (h3.mono fun _ _ hx => .inl hx) ⟨num_code ho, h2⟩ (fun _ hk => .inl hk)⟩
    | inr x =>
      rw [ho] at hq
      obtain ⟨v, h1, h2, h3, h4⟩ := hq
      simp only [ho]
      exact ⟨by rw [h1, h2], h.act (h4.mono fun _ _ hx => .inl hx) h3 (fun _ hk => .inl hk)⟩
theorem agg4 (k : List Int) (h : k.length = 4) : aggB k = .agg #[.int .u8 (k.getD 0 0), .int .u8 (k.getD 1 0), .int .u8 (k.getD 2 0), .int .u8 (k.getD 3 0)] := by
  obtain _ | ⟨a, _ | ⟨b, _ | ⟨c, _ | ⟨d, _ | ⟨e, l⟩⟩⟩⟩⟩ := k <;> simp at h
  rfl
theorem s_key {w0 w : World} {l : List Thg} {R : Nat} {a : Option Addr} {c : Nat} {bs : List Int} {s : St} (h : Bag w0 w (rdS R a c bs s :: l)) :
    Calls Try.prog 41 #[.pointer (some ⟨R, 0, none⟩)] w fun e w' => e = .returned (.agg #[.int .u8 ((rK bs s).1.getD 0 0), .int .u8 ((rK bs s).1.getD 1 0), .int .u8 ((rK bs s).1.getD 2 0), .int .u8 ((rK bs s).1.getD 3 0)]) ∧ Bag w0 w' (rdS R a c bs (rK bs s).2 :: l) := by
  rw [← agg4 _ (rK_len bs s)]
  cases s with
  | inl f =>
    obtain ⟨hne, p, hp⟩ := h.head
    exact (WirR.key_fault w R a c bs p f.1 f.2 hp hne).mono fun e w' ⟨h1, h2⟩ => ⟨h1, h.more h2⟩
  | inr p =>
    have hp : RSt w R a c bs p 0 0 := h.head
    refine (WirR.key_read w R a c bs p hp).mono fun e w' hq => ?_
    unfold rK
    cases ho : rowO 4 bs p with
    | inl c =>
      rw [ho] at hq
      obtain ⟨h1, h2, h3⟩ := hq
      simp only [ho]
      exact ⟨h1, h.act (h3.mono fun _ _ hx => .inl hx) ⟨row_code ho, h2⟩ (fun _ hk => .inl hk)⟩
    | inr x =>
      rw [ho] at hq
      obtain ⟨v, h1, h2, h3, h4⟩ := hq
      simp only [ho]
      exact ⟨by rw [h1, h2], h.act (h4.mono fun _ _ hx => .inl hx) h3 (fun _ hk => .inl hk)⟩
theorem s_end {w0 w : World} {l : List Thg} {R : Nat} {a : Option Addr} {c : Nat} {bs : List Int} {s : St} (h : Bag w0 w (rdS R a c bs s :: l)) :
    Calls Try.prog 35 #[.pointer (some ⟨R, 0, none⟩)] w fun e w' => e = .returned (.agg #[.int .i64 (endS bs s).1, .int .i64 (endS bs s).2]) ∧ Bag w0 w' (rdS R a c bs s :: l) := by
  cases s with
  | inl f =>
    obtain ⟨hne, p, hp⟩ := h.head
    refine (WirT.end_any w R a c bs p f.1 f.2 hp).mono fun e w' ⟨h1, h2⟩ => ⟨?_, h.more h2⟩
    have h0 : ¬ 0 < WirL.restN bs p f.1 := by unfold WirL.restN; rw [if_neg hne]; omega
    rw [h1]
    unfold fault endE endA
    rw [if_neg h0, if_neg h0]
    rfl
  | inr p =>
    have hp : RSt w R a c bs p 0 0 := h.head
    refine (WirT.end_any w R a c bs p 0 0 hp).mono fun e w' ⟨h1, h2⟩ => ⟨?_, h.more h2⟩
    rw [h1]
    have hle := hp.le
    unfold fault endE endA WirL.restN endS
    by_cases hlt : p < bs.length
    · simp [hlt]
    · have : p = bs.length := by omega
      simp [this]
end ValK
end Go.Proofs.Ythcemghamdmjmaa

namespace Go.Proofs.Ythcemghamdmjmaa
namespace ValSC
open Go.RowKit
open BlkM WirM WirS ValSA ValSB ValK
open WirH (sa bin_sub slR badN sub_rng)
open WirG (vL vL_snoc vL_lt vL_bound or256 take_snoc)
open WirJ (numO)
open WirRT (rng)

theorem cell0 {w : World} {a : Option Addr} {n c : Nat} {zs : List Int} (h : BIn w (.slice a n c) zs) (hn : 0 < n) : ∃ B o, a = some ⟨B, o, none⟩ ∧ w.cell? ⟨B, o, none⟩ = some (.int .u8 (zs.getD 0 0)) := by
  obtain ⟨a', c', e, _, hz⟩ := h
  cases e
  obtain ⟨B, o, rfl, _, hc⟩ := hz (List.length_pos_iff.1 hn)
  exact ⟨B, o, rfl, hc 0 hn⟩
theorem cells_of {w : World} {a : Option Addr} {n c : Nat} {zs : List Int} (h : BIn w (.slice a n c) zs) (hn : 0 < n) : ∃ B o, a = some ⟨B, o, none⟩ ∧ ∀ i, i < n → w.cell? ⟨B, o + i, none⟩ = some (.int .u8 (zs.getD i 0)) := by
  obtain ⟨a', c', e, _, hz⟩ := h
  cases e
  obtain ⟨B, o, rfl, _, hc⟩ := hz (List.length_pos_iff.1 hn)
  exact ⟨B, o, rfl, hc⟩
theorem one_at {bs : List Int} {p : Nat} (h : p + 1 ≤ bs.length) : (bs.drop p).take 1 = [bs.getD p 0] := by
  rw [List.drop_eq_getElem_cons (show p < bs.length by omega), List.take_succ_cons, List.take_zero, List.getD_eq_getElem?_getD, List.getElem?_eq_getElem (show p < bs.length by omega)]
  rfl
set_option maxRecDepth 10000 in
set_option maxHeartbeats 4000000 in
theorem num_fault (w : World) (R : Nat) (a : Option Addr) (c : Nat) (bs : List Int) (p fe fa : Int) (h : RR w R a c bs p fe fa) (hne : fe ≠ 0) :
    Calls Try.prog 114 #[.pointer (some ⟨R, 0, none⟩)] w fun e w' => e = .returned (.int .i64 0) ∧ w = w' := by
  have c1 : w.cell? ⟨R, 1, none⟩ = some (.int .i64 p) := h.cell.cell 1
  have c2 : w.cell? ⟨R, 2, none⟩ = some (.int .i64 fe) := h.cell.cell 2
  have e1 : (fe == 0) = false := by simpa using hne
  have e2 : (fe != 0) = true := by simpa using hne
  have HT := WirS.hide (take_fault w R a c bs p fe fa 1 p h hne)
  clear h hne
  go_enter Try.func114, Try.ntmps114
  go_wp2_with (go_at_call 197; refine (HT.out).mono ?_; rintro e _ ⟨rfl, rfl⟩)
  go_ret
  exact ⟨rfl, rfl⟩
set_option maxRecDepth 10000 in
set_option maxHeartbeats 4000000 in
theorem num_s1 (w : World) (R : Nat) (a : Option Addr) (c : Nat) (bs : List Int) (p : Nat) (h : RR w R a c bs (p : Int) 0 0) (hp : p ≤ bs.length) (hs : bs.length ≤ 1099511627776) (h1 : bs.length < p + 1) :
    Calls Try.prog 114 #[.pointer (some ⟨R, 0, none⟩)] w fun e w' => e = .returned (.int .i64 0) ∧ (∃ q : Int, RR w' R a c bs q 6 (p : Int)) ∧ Fr (fun k => k = R) w w' := by
  have c1 : w.cell? ⟨R, 1, none⟩ = some (.int .i64 (p : Int)) := h.cell.cell 1
  have HT := WirS.hide (take_short w R a c bs p 1 (p : Int) h hp h1 hs (by omega))
  clear h hp h1 hs
  go_enter Try.func114, Try.ntmps114
  go_wp2_with (go_at_call 197; refine (HT.out).mono ?_; rintro e u ⟨rfl, hr, hf⟩; have d2 : u.cell? ⟨R, 2, none⟩ = some (.int .i64 6) := hr.cell.cell 2; have HR := WirS.hide hr; have HF := WirS.hide hf; clear hr hf)
  go_ret
  exact ⟨rfl, ⟨_, HR.out⟩, HF.out⟩
set_option maxRecDepth 10000 in
set_option maxHeartbeats 4000000 in
theorem num_big (w : World) (R : Nat) (a : Option Addr) (c : Nat) (bs : List Int) (p : Nat) (h : RR w R a c bs (p : Int) 0 0) (hs : bs.length ≤ 1099511627776) (h1 : p + 1 ≤ bs.length) (h8 : 8 < bs.getD p 0) :
    Calls Try.prog 114 #[.pointer (some ⟨R, 0, none⟩)] w fun e w' => e = .returned (.int .i64 0) ∧ (∃ q : Int, RR w' R a c bs q 5 (p : Int)) ∧ Fr (fun k => k = R) w w' := by
  have c1 : w.cell? ⟨R, 1, none⟩ = some (.int .i64 (p : Int)) := h.cell.cell 1
  have HT := WirS.hide (take_ok w R a c bs p 1 (p : Int) h h1 hs)
  rw [one_at h1] at HT
  generalize bs.getD p 0 = x at *
  have hd : decide (8 < x) = true := by simpa using h8
  clear h h1 hs h8
  go_enter Try.func114, Try.ntmps114
  go_upto_region 4 with (go_at_call 197; refine (HT.out).mono ?_; rintro e u ⟨va, vc, rfl, hb, hr, hf⟩; obtain ⟨B, o, rfl, k0⟩ := cell0 hb (by decide); rw [List.getD_cons_zero] at k0; have d2 : u.cell? ⟨R, 2, none⟩ = some (.int .i64 0) := hr.cell.cell 2; have HR := WirS.hide hr; have HF := WirS.hide hf; clear hr hf hb)
  clear c1 d2
  go_wp2_with (go_at_call 198; refine (fails_ok _ R a c bs _ 5 (p : Int) HR.out).mono ?_; rintro e u2 ⟨rfl, hr, hf⟩; have d2 : u2.cell? ⟨R, 2, none⟩ = some (.int .i64 5) := hr.cell.cell 2; have HR2 := WirS.hide hr; have HF2 := WirS.hide hf; clear hr hf)
  go_ret
  exact ⟨rfl, ⟨_, HR2.out⟩, HF.out.trans HF2.out⟩
set_option maxRecDepth 10000 in
set_option maxHeartbeats 4000000 in
theorem num_s2 (w : World) (R : Nat) (a : Option Addr) (c : Nat) (bs : List Int) (p n : Nat) (h : RR w R a c bs (p : Int) 0 0) (hs : bs.length ≤ 1099511627776) (h1 : p + 1 ≤ bs.length) (hx : bs.getD p 0 = (n : Int)) (h8 : n ≤ 8) (h2 : bs.length < p + 1 + n) :
    Calls Try.prog 114 #[.pointer (some ⟨R, 0, none⟩)] w fun e w' => e = .returned (.int .i64 0) ∧ (∃ q : Int, RR w' R a c bs q 6 (p : Int)) ∧ Fr (fun k => k = R) w w' := by
  have c1 : w.cell? ⟨R, 1, none⟩ = some (.int .i64 (p : Int)) := h.cell.cell 1
  have HT := WirS.hide (take_ok w R a c bs p 1 (p : Int) h h1 hs)
  rw [one_at h1] at HT
  rw [hx] at HT
  have g8 : ¬ (8 : Int) < (n : Int) := by omega
  have hd : decide ((8 : Int) < (n : Int)) = false := by simpa using g8
  have HT2 := WirS.hide (fun (U : World) (hR : RR U R a c bs ((p + 1 : Nat) : Int) 0 0) => take_short U R a c bs (p + 1) n (p : Int) hR h1 h2 hs (by omega))
  clear h h1 hs hx h2
  go_enter Try.func114, Try.ntmps114
  go_upto_region 7 with (go_at_call 197; refine (HT.out).mono ?_; rintro e u ⟨va, vc, rfl, hb, hr, hf⟩; obtain ⟨B, o, rfl, k0⟩ := cell0 hb (by decide); rw [List.getD_cons_zero] at k0; have d2 : u.cell? ⟨R, 2, none⟩ = some (.int .i64 0) := hr.cell.cell 2; have HR := WirS.hide hr; have HF := WirS.hide hf; clear hr hf hb)
  clear c1 d2
  go_wp2_with (go_at_call 197; refine (HT2.out _ HR.out).mono ?_; rintro e u2 ⟨rfl, hr, hf⟩; have d2 : u2.cell? ⟨R, 2, none⟩ = some (.int .i64 6) := hr.cell.cell 2; have HR2 := WirS.hide hr; have HF2 := WirS.hide hf; clear hr hf)
  refine wp_loop_rounds 1 ?_
  rw [rounds_succ]
  go_wp2_with fail
  go_ret
  exact ⟨rfl, ⟨_, HR2.out⟩, HF.out.trans HF2.out⟩
set_option maxRecDepth 10000 in
set_option maxHeartbeats 4000000 in
theorem num_bad (w : World) (R : Nat) (a : Option Addr) (c : Nat) (bs : List Int) (p n : Nat) (h : RR w R a c bs (p : Int) 0 0) (hs : bs.length ≤ 1099511627776) (h1 : p + 1 ≤ bs.length) (hx : bs.getD p 0 = (n : Int)) (h8 : n ≤ 8) (h2 : p + 1 + n ≤ bs.length) (hr : rng bs) (hn0 : 0 < n) (hb : badN ((bs.drop (p + 1)).take n)) :
    Calls Try.prog 114 #[.pointer (some ⟨R, 0, none⟩)] w fun e w' => e = .returned (.int .i64 0) ∧ (∃ q : Int, RR w' R a c bs q 5 (p : Int)) ∧ Fr (fun k => k = R) w w' := by
  have c1 : w.cell? ⟨R, 1, none⟩ = some (.int .i64 (p : Int)) := h.cell.cell 1
  have HT := WirS.hide (take_ok w R a c bs p 1 (p : Int) h h1 hs)
  rw [one_at h1] at HT
  rw [hx] at HT
  have g8 : ¬ (8 : Int) < (n : Int) := by omega
  have hd : decide ((8 : Int) < (n : Int)) = false := by simpa using g8
  have HT2 := WirS.hide (fun (U : World) (hR : RR U R a c bs ((p + 1 : Nat) : Int) 0 0) => take_ok U R a c bs (p + 1) n (p : Int) hR h2 hs)
  obtain ⟨zs, hzs⟩ : ∃ zs, (bs.drop (p + 1)).take n = zs := ⟨_, rfl⟩
  have hzl : zs.length = n := by rw [← hzs, List.length_take, List.length_drop]; omega
  have hzr : ∀ x ∈ zs, 0 ≤ x ∧ x < 256 := by rw [← hzs]; exact sub_rng hr (p + 1) n
  rw [hzs] at HT2 hb 
  have HZL := WirS.hide hzl
  have HBD := WirS.hide hb
  clear h h1 hs hx h2 hzs hr hb
  go_enter Try.func114, Try.ntmps114
  go_upto_region 7 with (go_at_call 197; refine (HT.out).mono ?_; rintro e u ⟨va, vc, rfl, hb, hr, hf⟩; obtain ⟨B, o, rfl, k0⟩ := cell0 hb (by decide); rw [List.getD_cons_zero] at k0; have d2 : u.cell? ⟨R, 2, none⟩ = some (.int .i64 0) := hr.cell.cell 2; have HR := WirS.hide hr; have HF := WirS.hide hf; clear hr hf hb)
  clear c1 d2
  go_upto_region 10 with (go_at_call 197; refine (HT2.out _ HR.out).mono ?_; rintro e u2 ⟨xa, xc, rfl, hb, hr, hf⟩; have d2 : u2.cell? ⟨R, 2, none⟩ = some (.int .i64 0) := hr.cell.cell 2; have HX := WirS.hide hb; have HR2 := WirS.hide hr; have HF2 := WirS.hide hf; clear hr hf hb)
  clear k0
  obtain ⟨B2, o2, rfl, hc⟩ := cells_of HX.out hn0
  have y0 := hc 0 hn0
  rw [Nat.add_zero] at y0
  have HC := WirS.hide hc
  clear hc
  go_loop [6, 7] (fun t i => ∃ k : Nat, k ≤ n ∧ i = .int .i64 k ∧ t = .int .u64 (vL (zs.take k))) (fun _ i => n - (intOf i).toNat)
  case atStart => exact ⟨0, Nat.zero_le _, rfl, rfl⟩
  case round =>
    obtain ⟨k, hk, rfl, rfl⟩ := hrel
    by_cases hlt : k < n
    · have hcell := HC.out k (by first | exact hlt | (rw [HZL.out]; exact hlt))
      have hb := vL_bound zs hzr k (by rw [HZL.out]; exact hk)
      have hx : 0 ≤ zs.getD k 0 ∧ zs.getD k 0 < 256 := by
        have hl : k < zs.length := by rw [HZL.out]; exact hlt
        have := hzr zs[k] (List.getElem_mem hl)
        simpa [List.getD, hl] using this
      have hs := WirS.hide (show vL (zs.take (k + 1)) = vL (zs.take k) * 256 + zs.getD k 0 by rw [take_snoc zs k (by rw [HZL.out]; exact hlt), vL_snoc])
      generalize zs.getD k 0 = x at hcell hx hs
      have hp : (256 : Int) ^ k ≤ 256 ^ 7 := by have := Nat.pow_le_pow_right (n := 256) (by decide) (show k ≤ 7 by omega); have h2 : ((256 ^ k : Nat) : Int) ≤ ((256 ^ 7 : Nat) : Int) := Int.ofNat_le.2 this; rw [Int.natCast_pow, Int.natCast_pow] at h2; exact h2
      generalize vL (zs.take k) = m at hb hs ⊢
      have h256 := Int.lt_of_lt_of_le hb.2 hp
      have hm := hb.1
      obtain ⟨hx0, hx1⟩ := hx
      have hor := or256 m x hm (by omega) hx0 hx1
      clear hb hp
      go_wp2_with fail
      exact ⟨⟨k + 1, by omega, by go_num, by rw [hs.out]⟩, by simp [intOf]; omega⟩
    · obtain rfl : k = n := by omega
      have hvk : vL (zs.take k) = vL zs := by rw [List.take_of_length_le (by rw [HZL.out]; exact Nat.le_refl _)]
      have hlast := vL_lt zs hzr
      rw [HZL.out] at hlast
      have hp : (256 : Int) ^ k ≤ 256 ^ 8 := by have := Nat.pow_le_pow_right (n := 256) (by decide) (show k ≤ 8 by omega); have h2 : ((256 ^ k : Nat) : Int) ≤ ((256 ^ 8 : Nat) : Int) := Int.ofNat_le.2 this; rw [Int.natCast_pow, Int.natCast_pow] at h2; exact h2
      have hm1 := Int.lt_of_lt_of_le hlast.2 hp
      have hm0 := hlast.1
      rw [hvk]
      have HV := WirS.hide (show zs.getD 0 0 = zs.getD 0 0 from rfl)
      have hbd := HBD.out
      have hk0 : (0 : Int) < (k : Int) := by omega
      clear hlast hp hvk HC hzr
      clear d2
      by_cases h0 : zs.getD 0 0 = 0
      · rw [h0] at y0
        clear hbd
        generalize vL zs = m at *
        go_wp2_with (go_at_call 198; refine (fails_ok _ R a c bs _ 5 (p : Int) HR2.out).mono ?_; rintro e u3 ⟨rfl, hr, hf⟩; have e2 : u3.cell? ⟨R, 2, none⟩ = some (.int .i64 5) := hr.cell.cell 2; have HR3 := WirS.hide hr; have HF3 := WirS.hide hf; clear hr hf)
        go_ret
        exact ⟨rfl, ⟨_, HR3.out⟩, (HF.out.trans HF2.out).trans HF3.out⟩
      · have hmx : 9223372036854775807 < vL zs := by
          rcases hbd with ⟨_, h⟩ | h
          · exact absurd h h0
          · exact h
        have e0 : (zs.getD 0 0 == 0) = false := by simpa using h0
        generalize zs.getD 0 0 = y at *
        clear hbd h0
        generalize vL zs = m at *
        have hsh : m / 9223372036854775808 = 1 := by omega
        go_wp2_with (go_at_call 198; refine (fails_ok _ R a c bs _ 5 (p : Int) HR2.out).mono ?_; rintro e u3 ⟨rfl, hr, hf⟩; have e2 : u3.cell? ⟨R, 2, none⟩ = some (.int .i64 5) := hr.cell.cell 2; have HR3 := WirS.hide hr; have HF3 := WirS.hide hf; clear hr hf)
        go_ret
        exact ⟨rfl, ⟨_, HR3.out⟩, (HF.out.trans HF2.out).trans HF3.out⟩
set_option maxRecDepth 10000 in
set_option maxHeartbeats 4000000 in
theorem num_ok (w : World) (R : Nat) (a : Option Addr) (c : Nat) (bs : List Int) (p n : Nat) (h : RR w R a c bs (p : Int) 0 0) (hs : bs.length ≤ 1099511627776) (h1 : p + 1 ≤ bs.length) (hx : bs.getD p 0 = (n : Int)) (h8 : n ≤ 8) (h2 : p + 1 + n ≤ bs.length) (hr : rng bs) (hn0 : 0 < n) (hb : ¬ badN ((bs.drop (p + 1)).take n)) :
    Calls Try.prog 114 #[.pointer (some ⟨R, 0, none⟩)] w fun e w' => e = .returned (.int .i64 (vL ((bs.drop (p + 1)).take n))) ∧ RR w' R a c bs ((p + 1 + n : Nat) : Int) 0 0 ∧ Fr (fun k => k = R) w w' := by
  have c1 : w.cell? ⟨R, 1, none⟩ = some (.int .i64 (p : Int)) := h.cell.cell 1
  have HT := WirS.hide (take_ok w R a c bs p 1 (p : Int) h h1 hs)
  rw [one_at h1] at HT
  rw [hx] at HT
  have g8 : ¬ (8 : Int) < (n : Int) := by omega
  have hd : decide ((8 : Int) < (n : Int)) = false := by simpa using g8
  have HT2 := WirS.hide (fun (U : World) (hR : RR U R a c bs ((p + 1 : Nat) : Int) 0 0) => take_ok U R a c bs (p + 1) n (p : Int) hR h2 hs)
  obtain ⟨zs, hzs⟩ : ∃ zs, (bs.drop (p + 1)).take n = zs := ⟨_, rfl⟩
  have hzl : zs.length = n := by rw [← hzs, List.length_take, List.length_drop]; omega
  have hzr : ∀ x ∈ zs, 0 ≤ x ∧ x < 256 := by rw [← hzs]; exact sub_rng hr (p + 1) n
  rw [hzs] at HT2 hb ⊢
  have HZL := WirS.hide hzl
  have HBD := WirS.hide hb
  clear h h1 hs hx h2 hzs hr hb
  go_enter Try.func114, Try.ntmps114
  go_upto_region 7 with (go_at_call 197; refine (HT.out).mono ?_; rintro e u ⟨va, vc, rfl, hb, hr, hf⟩; obtain ⟨B, o, rfl, k0⟩ := cell0 hb (by decide); rw [List.getD_cons_zero] at k0; have d2 : u.cell? ⟨R, 2, none⟩ = some (.int .i64 0) := hr.cell.cell 2; have HR := WirS.hide hr; have HF := WirS.hide hf; clear hr hf hb)
  clear c1 d2
  go_upto_region 10 with (go_at_call 197; refine (HT2.out _ HR.out).mono ?_; rintro e u2 ⟨xa, xc, rfl, hb, hr, hf⟩; have d2 : u2.cell? ⟨R, 2, none⟩ = some (.int .i64 0) := hr.cell.cell 2; have HX := WirS.hide hb; have HR2 := WirS.hide hr; have HF2 := WirS.hide hf; clear hr hf hb)
  clear k0
  obtain ⟨B2, o2, rfl, hc⟩ := cells_of HX.out hn0
  have y0 := hc 0 hn0
  rw [Nat.add_zero] at y0
  have HC := WirS.hide hc
  clear hc
  go_loop [6, 7] (fun t i => ∃ k : Nat, k ≤ n ∧ i = .int .i64 k ∧ t = .int .u64 (vL (zs.take k))) (fun _ i => n - (intOf i).toNat)
  case atStart => exact ⟨0, Nat.zero_le _, rfl, rfl⟩
  case round =>
    obtain ⟨k, hk, rfl, rfl⟩ := hrel
    by_cases hlt : k < n
    · have hcell := HC.out k (by first | exact hlt | (rw [HZL.out]; exact hlt))
      have hb := vL_bound zs hzr k (by rw [HZL.out]; exact hk)
      have hx : 0 ≤ zs.getD k 0 ∧ zs.getD k 0 < 256 := by
        have hl : k < zs.length := by rw [HZL.out]; exact hlt
        have := hzr zs[k] (List.getElem_mem hl)
        simpa [List.getD, hl] using this
      have hs := WirS.hide (show vL (zs.take (k + 1)) = vL (zs.take k) * 256 + zs.getD k 0 by rw [take_snoc zs k (by rw [HZL.out]; exact hlt), vL_snoc])
      generalize zs.getD k 0 = x at hcell hx hs
      have hp : (256 : Int) ^ k ≤ 256 ^ 7 := by have := Nat.pow_le_pow_right (n := 256) (by decide) (show k ≤ 7 by omega); have h2 : ((256 ^ k : Nat) : Int) ≤ ((256 ^ 7 : Nat) : Int) := Int.ofNat_le.2 this; rw [Int.natCast_pow, Int.natCast_pow] at h2; exact h2
      generalize vL (zs.take k) = m at hb hs ⊢
      have h256 := Int.lt_of_lt_of_le hb.2 hp
      have hm := hb.1
      obtain ⟨hx0, hx1⟩ := hx
      have hor := or256 m x hm (by omega) hx0 hx1
      clear hb hp
      go_wp2_with fail
      exact ⟨⟨k + 1, by omega, by go_num, by rw [hs.out]⟩, by simp [intOf]; omega⟩
    · obtain rfl : k = n := by omega
      have hvk : vL (zs.take k) = vL zs := by rw [List.take_of_length_le (by rw [HZL.out]; exact Nat.le_refl _)]
      have hlast := vL_lt zs hzr
      rw [HZL.out] at hlast
      have hp : (256 : Int) ^ k ≤ 256 ^ 8 := by have := Nat.pow_le_pow_right (n := 256) (by decide) (show k ≤ 8 by omega); have h2 : ((256 ^ k : Nat) : Int) ≤ ((256 ^ 8 : Nat) : Int) := Int.ofNat_le.2 this; rw [Int.natCast_pow, Int.natCast_pow] at h2; exact h2
      have hm1 := Int.lt_of_lt_of_le hlast.2 hp
      have hm0 := hlast.1
      rw [hvk]
      have HV := WirS.hide (show zs.getD 0 0 = zs.getD 0 0 from rfl)
      have hbd := HBD.out
      have hk0 : (0 : Int) < (k : Int) := by omega
      clear hlast hp hvk HC hzr
      have h0 : ¬ zs.getD 0 0 = 0 := fun h => hbd (.inl ⟨List.length_pos_iff.1 (by rw [HZL.out]; exact hn0), h⟩)
      have hmx : ¬ 9223372036854775807 < vL zs := fun h => hbd (.inr h)
      have e0 : (zs.getD 0 0 == 0) = false := by simpa using h0
      generalize zs.getD 0 0 = y at *
      clear hbd h0
      obtain ⟨m, hvm⟩ : ∃ m, vL zs = m := ⟨_, rfl⟩
      have HVM := WirS.hide hvm
      rw [hvm] at hm1 hm0 hmx ⊢
      clear hvm
      have hsh : m / 9223372036854775808 = 0 := by omega
      have hmx2 : m ≤ 9223372036854775807 := by omega
      go_wp2_with fail
      go_ret
      exact ⟨by rw [HVM.out]; rfl, HR2.out, HF.out.trans HF2.out⟩
set_option maxRecDepth 10000 in
set_option maxHeartbeats 4000000 in
theorem num_ok0 (w : World) (R : Nat) (a : Option Addr) (c : Nat) (bs : List Int) (p : Nat) (h : RR w R a c bs (p : Int) 0 0) (hs : bs.length ≤ 1099511627776) (h1 : p + 1 ≤ bs.length) (hx : bs.getD p 0 = 0) :
    Calls Try.prog 114 #[.pointer (some ⟨R, 0, none⟩)] w fun e w' => e = .returned (.int .i64 0) ∧ RR w' R a c bs ((p + 1 + 0 : Nat) : Int) 0 0 ∧ Fr (fun k => k = R) w w' := by
  have c1 : w.cell? ⟨R, 1, none⟩ = some (.int .i64 (p : Int)) := h.cell.cell 1
  have HT := WirS.hide (take_ok w R a c bs p 1 (p : Int) h h1 hs)
  rw [one_at h1] at HT
  rw [hx] at HT
  have HT2 := WirS.hide (fun (U : World) (hR : RR U R a c bs ((p + 1 : Nat) : Int) 0 0) => take_ok U R a c bs (p + 1) 0 (p : Int) hR h1 hs)
  clear h h1 hs hx
  go_enter Try.func114, Try.ntmps114
  go_upto_region 7 with (go_at_call 197; refine (HT.out).mono ?_; rintro e u ⟨va, vc, rfl, hb, hr, hf⟩; obtain ⟨B, o, rfl, k0⟩ := cell0 hb (by decide); rw [List.getD_cons_zero] at k0; have d2 : u.cell? ⟨R, 2, none⟩ = some (.int .i64 0) := hr.cell.cell 2; have HR := WirS.hide hr; have HF := WirS.hide hf; clear hr hf hb)
  clear c1 d2
  go_wp2_with (go_at_call 197; refine (HT2.out _ HR.out).mono ?_; rintro e u2 ⟨xa, xc, rfl, hb, hr, hf⟩; have d2 : u2.cell? ⟨R, 2, none⟩ = some (.int .i64 0) := hr.cell.cell 2; have HX := WirS.hide hb; have HR2 := WirS.hide hr; have HF2 := WirS.hide hf; clear hr hf hb)
  refine wp_loop_rounds 1 ?_
  rw [rounds_succ]
  go_wp2_with fail
  go_ret
  exact ⟨rfl, HR2.out, HF.out.trans HF2.out⟩
/-- A reader in such a state. -/
def RS (w : World) (R : Nat) (a : Option Addr) (c : Nat) (bs : List Int) (s : St) : Prop :=
  match s with
  | .inl f => f.1 ≠ 0 ∧ ∃ p : Int, RR w R a c bs p f.1 f.2
  | .inr p => p ≤ bs.length ∧ RR w R a c bs (p : Int) 0 0
theorem rs_num (w : World) (R : Nat) (a : Option Addr) (c : Nat) (bs : List Int) (s : St) (h : RS w R a c bs s) (hs : bs.length ≤ 1099511627776) (hr : rng bs) :
    Calls Try.prog 114 #[.pointer (some ⟨R, 0, none⟩)] w fun e w' => e = .returned (.int .i64 (rN bs s).1) ∧ RS w' R a c bs (rN bs s).2 ∧ Fr (fun k => k = R) w w' := by
  cases s with
  | inl f =>
    obtain ⟨hne, p, hp⟩ := h
    exact (num_fault w R a c bs p f.1 f.2 hp hne).mono fun e w' ⟨h1, h2⟩ => by subst h2; exact ⟨h1, ⟨hne, p, hp⟩, Fr.refl _ _⟩
  | inr p =>
    obtain ⟨hp, h⟩ := h
    have bd : ∀ (cd : Int), cd ≠ 0 → numO bs p = .inl cd → Calls Try.prog 114 #[.pointer (some ⟨R, 0, none⟩)] w (fun e w' => e = .returned (.int .i64 0) ∧ (∃ q : Int, RR w' R a c bs q cd (p : Int)) ∧ Fr (fun k => k = R) w w') → Calls Try.prog 114 #[.pointer (some ⟨R, 0, none⟩)] w fun e w' => e = .returned (.int .i64 (rN bs (.inr p)).1) ∧ RS w' R a c bs (rN bs (.inr p)).2 ∧ Fr (fun k => k = R) w w' := fun cd hc he H => by
      have e1 : rN bs (.inr p) = (0, .inl (cd, (p : Int))) := by simp only [rN, he]
      rw [e1]
      exact H.mono fun e w' ⟨h1, h2, h3⟩ => ⟨h1, ⟨hc, h2⟩, h3⟩
    by_cases h1 : bs.length < p + 1
    · exact bd 6 (by decide) (by unfold numO; rw [if_pos h1]) (num_s1 w R a c bs p h hp hs h1)
    by_cases h8 : 8 < bs.getD p 0
    · exact bd 5 (by decide) (by unfold numO; rw [if_neg h1, if_pos h8]) (num_big w R a c bs p h hs (by omega) h8)
    have hx0 : 0 ≤ bs.getD p 0 := by
      rw [List.getD_eq_getElem?_getD, List.getElem?_eq_getElem (show p < bs.length by omega)]
      exact (hr _ (List.getElem_mem _)).1
    obtain ⟨n, hx⟩ : ∃ n : Nat, bs.getD p 0 = (n : Int) := ⟨(bs.getD p 0).toNat, by omega⟩
    have hn8 : n ≤ 8 := by omega
    have htn : (bs.getD p 0).toNat = n := by omega
    by_cases h2 : bs.length < p + 1 + n
    · exact bd 6 (by decide) (by unfold numO; rw [if_neg h1, if_neg h8, htn, if_pos h2]) (num_s2 w R a c bs p n h hs (by omega) hx hn8 h2)
    by_cases hb : badN ((bs.drop (p + 1)).take n)
    · have hn0 : 0 < n := by
        rcases Nat.eq_zero_or_pos n with h | h
        · subst h
          rw [List.take_zero] at hb
          rcases hb with ⟨h, _⟩ | h
          · exact absurd rfl h
          · exact absurd h (by decide)
        · exact h
      exact bd 5 (by decide) (by unfold numO; rw [if_neg h1, if_neg h8, htn, if_neg h2, if_pos hb]) (num_bad w R a c bs p n h hs (by omega) hx hn8 (by omega) hr hn0 hb)
    have e1 : rN bs (.inr p) = (vL ((bs.drop (p + 1)).take n), .inr (p + 1 + n)) := by
      have : numO bs p = .inr (vL ((bs.drop (p + 1)).take n), p + 1 + n) := by unfold numO; rw [if_neg h1, if_neg h8, htn, if_neg h2, if_neg hb]
      simp only [rN, this]
    rw [e1]
    rcases Nat.eq_zero_or_pos n with h0 | h0
    · subst h0
      exact (num_ok0 w R a c bs p h hs (by omega) hx).mono fun e w' ⟨h1, h2, h3⟩ => ⟨h1, ⟨by omega, h2⟩, h3⟩
    · exact (num_ok w R a c bs p n h hs (by omega) hx hn8 (by omega) hr h0 hb).mono fun e w' ⟨h1, h2, h3⟩ => ⟨h1, ⟨by omega, h2⟩, h3⟩
end ValSC
end Go.Proofs.Ythcemghamdmjmaa

namespace Go.Proofs.Ythcemghamdmjmaa
namespace ValSD
open Go.RowKit
open BlkM WirM WirS ValSA ValSB ValSC ValK
open WirO (rowO)
open WirRT (rng)

set_option maxRecDepth 10000 in
set_option maxHeartbeats 4000000 in
theorem key_fault (w : World) (R : Nat) (a : Option Addr) (c : Nat) (bs : List Int) (p fe fa : Int) (h : RR w R a c bs p fe fa) (hne : fe ≠ 0) :
    Calls Try.prog 118 #[.pointer (some ⟨R, 0, none⟩)] w fun e w' => e = .returned (.agg #[.int .u8 0, .int .u8 0, .int .u8 0, .int .u8 0]) ∧ RR w' R a c bs p fe fa ∧ Fr (fun k => k = R) w w' := by
  obtain ⟨W0, e0⟩ : ∃ X, X = (w.alloc (.cells #[.int .u8 0, .int .u8 0, .int .u8 0, .int .u8 0] 36)).alloc (.cells #[.int .u8 0, .int .u8 0, .int .u8 0, .int .u8 0] 36) := ⟨_, rfl⟩
  have hA : At W0 w.heap.size 36 [.int .u8 0, .int .u8 0, .int .u8 0, .int .u8 0] := by rw [e0]; exact At.alloc (At.new w _ [_, _, _, _]) _
  have hB : At W0 (w.heap.size + 1) 36 [.int .u8 0, .int .u8 0, .int .u8 0, .int .u8 0] := by
    rw [e0]
    have := At.new (w.alloc (.cells #[.int .u8 0, .int .u8 0, .int .u8 0, .int .u8 0] 36)) 36 [.int .u8 0, .int .u8 0, .int .u8 0, .int .u8 0]
    rw [World.size_alloc] at this
    exact this
  have hb0 : Below w.heap.size w W0 := by rw [e0]; exact Below.alloc (Below.alloc (Below.refl _ _) (Nat.le_refl _) _) (by simp) _
  have hRl := h.cell.lt
  have h0 := h.below hb0
  have HB0 := WirS.hide hb0
  have E0 := WirS.hide e0
  have hne1 : ¬ w.heap.size = R := by omega
  have hne2 : ¬ w.heap.size + 1 = R := by omega
  have c1 : W0.cell? ⟨R, 1, none⟩ = some (.int .i64 p) := h0.cell.cell 1
  have HA := WirS.hide hA
  have HK := WirS.hide hB
  have HNE := WirS.hide (And.intro hne1 hne2)
  have HT := WirS.hide (take_fault W0 R a c bs p fe fa 4 p h0 hne)
  have H := WirS.hide h
  clear h hne hA hB hb0 e0 h0 hne1 hne2
  go_enter Try.func118, Try.ntmps118
  go_upto_region 2 with fail
  rw [← E0.out]
  clear E0
  go_upto_region 3 with (go_at_call 197; refine (HT.out).mono ?_; rintro e _ ⟨rfl, rfl⟩)
  have HF := WirS.hide (Fr.refl (fun k => k = R) W0)
  have hA1 := At.fr HA.out HF.out HNE.out.1
  have hK1 := At.fr HK.out HF.out HNE.out.2
  have k0 : W0.cell? ⟨w.heap.size + 1, 0, none⟩ = some (.int .u8 0) := hK1.cell 0
  have k1 : W0.cell? ⟨w.heap.size + 1, 1, none⟩ = some (.int .u8 0) := hK1.cell 1
  have k2 : W0.cell? ⟨w.heap.size + 1, 2, none⟩ = some (.int .u8 0) := hK1.cell 2
  have k3 : W0.cell? ⟨w.heap.size + 1, 3, none⟩ = some (.int .u8 0) := hK1.cell 3
  have kf0 := hK1.frozen 0
  have kf1 := hK1.frozen 1
  have kf2 := hK1.frozen 2
  have kf3 := hK1.frozen 3
  have a0 : W0.cell? ⟨w.heap.size, 0, none⟩ = some (.int .u8 0) := hA1.cell 0
  have a1 : W0.cell? ⟨w.heap.size, 1, none⟩ = some (.int .u8 0) := hA1.cell 1
  have a2 : W0.cell? ⟨w.heap.size, 2, none⟩ = some (.int .u8 0) := hA1.cell 2
  have a3 : W0.cell? ⟨w.heap.size, 3, none⟩ = some (.int .u8 0) := hA1.cell 3
  have af0 := hA1.frozen 0
  have af1 := hA1.frozen 1
  have af2 := hA1.frozen 2
  have af3 := hA1.frozen 3
  clear hA1 hK1 c1
  go_wp2_with fail
  refine wp_loop_rounds 1 ?_
  rw [rounds_succ]
  go_wp2_with fail
  refine bodyPost_ret (v := .agg #[.int .u8 0, .int .u8 0, .int .u8 0, .int .u8 0]) (by simp [results, Try.results118, go_sem, a0, a1, a2, a3]) rfl ?_
  have hbF : Below w.heap.size w ((((W0.setCell ⟨w.heap.size, 0, none⟩ (.int .u8 0)).setCell ⟨w.heap.size, 1, none⟩ (.int .u8 0)).setCell ⟨w.heap.size, 2, none⟩ (.int .u8 0)).setCell ⟨w.heap.size, 3, none⟩ (.int .u8 0)) := (((HB0.out.setCell (p := ⟨w.heap.size, 0, none⟩) (Nat.le_refl _) _).setCell (p := ⟨w.heap.size, 1, none⟩) (Nat.le_refl _) _).setCell (p := ⟨w.heap.size, 2, none⟩) (Nat.le_refl _) _).setCell (p := ⟨w.heap.size, 3, none⟩) (Nat.le_refl _) _
  exact ⟨rfl, H.out.below hbF, Fr.of_below hbF⟩
set_option maxRecDepth 10000 in
set_option maxHeartbeats 4000000 in
theorem key_short (w : World) (R : Nat) (a : Option Addr) (c : Nat) (bs : List Int) (p : Nat) (h : RR w R a c bs (p : Int) 0 0) (hp : p ≤ bs.length) (hs : bs.length ≤ 1099511627776) (h1 : bs.length < p + 4) :
    Calls Try.prog 118 #[.pointer (some ⟨R, 0, none⟩)] w fun e w' => e = .returned (.agg #[.int .u8 0, .int .u8 0, .int .u8 0, .int .u8 0]) ∧ (∃ q : Int, RR w' R a c bs q 6 (p : Int)) ∧ Fr (fun k => k = R) w w' := by
  obtain ⟨W0, e0⟩ : ∃ X, X = (w.alloc (.cells #[.int .u8 0, .int .u8 0, .int .u8 0, .int .u8 0] 36)).alloc (.cells #[.int .u8 0, .int .u8 0, .int .u8 0, .int .u8 0] 36) := ⟨_, rfl⟩
  have hA : At W0 w.heap.size 36 [.int .u8 0, .int .u8 0, .int .u8 0, .int .u8 0] := by rw [e0]; exact At.alloc (At.new w _ [_, _, _, _]) _
  have hB : At W0 (w.heap.size + 1) 36 [.int .u8 0, .int .u8 0, .int .u8 0, .int .u8 0] := by
    rw [e0]
    have := At.new (w.alloc (.cells #[.int .u8 0, .int .u8 0, .int .u8 0, .int .u8 0] 36)) 36 [.int .u8 0, .int .u8 0, .int .u8 0, .int .u8 0]
    rw [World.size_alloc] at this
    exact this
  have hb0 : Below w.heap.size w W0 := by rw [e0]; exact Below.alloc (Below.alloc (Below.refl _ _) (Nat.le_refl _) _) (by simp) _
  have hRl := h.cell.lt
  have h0 := h.below hb0
  have HB0 := WirS.hide hb0
  have E0 := WirS.hide e0
  have hne1 : ¬ w.heap.size = R := by omega
  have hne2 : ¬ w.heap.size + 1 = R := by omega
  have c1 : W0.cell? ⟨R, 1, none⟩ = some (.int .i64 (p : Int)) := h0.cell.cell 1
  have HA := WirS.hide hA
  have HK := WirS.hide hB
  have HNE := WirS.hide (And.intro hne1 hne2)
  have HOL := WirS.hide h.olt
  have HT := WirS.hide (take_short W0 R a c bs p 4 (p : Int) h0 hp h1 hs (by omega))
  clear h hp hs h1 hA hB hb0 e0 h0 hne1 hne2
  go_enter Try.func118, Try.ntmps118
  go_upto_region 2 with fail
  rw [← E0.out]
  clear E0
  go_upto_region 3 with (go_at_call 197; refine (HT.out).mono ?_; rintro e u ⟨rfl, hr, hf⟩; have HR := WirS.hide hr; have HF := WirS.hide hf; clear hr hf)
  have hA1 := At.fr HA.out HF.out HNE.out.1
  have hK1 := At.fr HK.out HF.out HNE.out.2
  have k0 : u.cell? ⟨w.heap.size + 1, 0, none⟩ = some (.int .u8 0) := hK1.cell 0
  have k1 : u.cell? ⟨w.heap.size + 1, 1, none⟩ = some (.int .u8 0) := hK1.cell 1
  have k2 : u.cell? ⟨w.heap.size + 1, 2, none⟩ = some (.int .u8 0) := hK1.cell 2
  have k3 : u.cell? ⟨w.heap.size + 1, 3, none⟩ = some (.int .u8 0) := hK1.cell 3
  have kf0 := hK1.frozen 0
  have kf1 := hK1.frozen 1
  have kf2 := hK1.frozen 2
  have kf3 := hK1.frozen 3
  have a0 : u.cell? ⟨w.heap.size, 0, none⟩ = some (.int .u8 0) := hA1.cell 0
  have a1 : u.cell? ⟨w.heap.size, 1, none⟩ = some (.int .u8 0) := hA1.cell 1
  have a2 : u.cell? ⟨w.heap.size, 2, none⟩ = some (.int .u8 0) := hA1.cell 2
  have a3 : u.cell? ⟨w.heap.size, 3, none⟩ = some (.int .u8 0) := hA1.cell 3
  have af0 := hA1.frozen 0
  have af1 := hA1.frozen 1
  have af2 := hA1.frozen 2
  have af3 := hA1.frozen 3
  clear hA1 hK1 c1
  go_wp2_with fail
  refine wp_loop_rounds 1 ?_
  rw [rounds_succ]
  go_wp2_with fail
  refine bodyPost_ret (v := .agg #[.int .u8 0, .int .u8 0, .int .u8 0, .int .u8 0]) (by simp [results, Try.results118, go_sem, a0, a1, a2, a3]) rfl ?_
  have hst := (((((Fr.refl (fun k => k = w.heap.size) u).setCell (w.heap.size) 0 (.int .u8 0) (fun _ => rfl)).setCell (w.heap.size) 1 (.int .u8 0) (fun _ => rfl)).setCell (w.heap.size) 2 (.int .u8 0) (fun _ => rfl)).setCell (w.heap.size) 3 (.int .u8 0) (fun _ => rfl))
  exact ⟨rfl, ⟨_, HR.out.fr hst (fun e => HNE.out.1 e.symm) (fun k hk e => by have := HOL.out k hk; omega)⟩, ((Fr.of_below HB0.out).trans' HF.out (fun _ _ h => h)).trans' hst (fun i hi e => absurd e (by omega))⟩
set_option maxRecDepth 10000 in
set_option maxHeartbeats 4000000 in
theorem key_ok (w : World) (R : Nat) (a : Option Addr) (c : Nat) (bs : List Int) (p : Nat) (h : RR w R a c bs (p : Int) 0 0) (h1 : p + 4 ≤ bs.length) (hs : bs.length ≤ 1099511627776) (zs : List Int) (hz : (bs.drop p).take 4 = zs) :
    Calls Try.prog 118 #[.pointer (some ⟨R, 0, none⟩)] w fun e w' => e = .returned (.agg #[.int .u8 (zs.getD 0 0), .int .u8 (zs.getD 1 0), .int .u8 (zs.getD 2 0), .int .u8 (zs.getD 3 0)]) ∧ RR w' R a c bs ((p + 4 : Nat) : Int) 0 0 ∧ Fr (fun k => k = R) w w' := by
  obtain ⟨W0, e0⟩ : ∃ X, X = (w.alloc (.cells #[.int .u8 0, .int .u8 0, .int .u8 0, .int .u8 0] 36)).alloc (.cells #[.int .u8 0, .int .u8 0, .int .u8 0, .int .u8 0] 36) := ⟨_, rfl⟩
  have hA : At W0 w.heap.size 36 [.int .u8 0, .int .u8 0, .int .u8 0, .int .u8 0] := by rw [e0]; exact At.alloc (At.new w _ [_, _, _, _]) _
  have hB : At W0 (w.heap.size + 1) 36 [.int .u8 0, .int .u8 0, .int .u8 0, .int .u8 0] := by
    rw [e0]
    have := At.new (w.alloc (.cells #[.int .u8 0, .int .u8 0, .int .u8 0, .int .u8 0] 36)) 36 [.int .u8 0, .int .u8 0, .int .u8 0, .int .u8 0]
    rw [World.size_alloc] at this
    exact this
  have hb0 : Below w.heap.size w W0 := by rw [e0]; exact Below.alloc (Below.alloc (Below.refl _ _) (Nat.le_refl _) _) (by simp) _
  have hRl := h.cell.lt
  have h0 := h.below hb0
  have HB0 := WirS.hide hb0
  have E0 := WirS.hide e0
  have hne1 : ¬ w.heap.size = R := by omega
  have hne2 : ¬ w.heap.size + 1 = R := by omega
  have c1 : W0.cell? ⟨R, 1, none⟩ = some (.int .i64 (p : Int)) := h0.cell.cell 1
  have HA := WirS.hide hA
  have HK := WirS.hide hB
  have HNE := WirS.hide (And.intro hne1 hne2)
  have HOL := WirS.hide h.olt
  have HT := WirS.hide (take_ok2 W0 R a c bs p 4 (p : Int) h0 h1 hs)
  rw [hz] at HT
  have hW2 : w.heap.size + 2 ≤ W0.heap.size := by rw [e0]; simp
  have HW2 := WirS.hide hW2
  clear h hs h1 hA hB hb0 e0 h0 hne1 hne2 hz hW2
  go_enter Try.func118, Try.ntmps118
  go_upto_region 2 with fail
  rw [← E0.out]
  clear E0
  go_upto_region 3 with (go_at_call 197; refine (HT.out).mono ?_; rintro e u ⟨va, vc, rfl, hb, hr, hf, hnb⟩; obtain ⟨B, o, rfl, hc⟩ := cells_of hb (by decide); have y0 := hc 0 (by decide); have y1 := hc 1 (by decide); have y2 := hc 2 (by decide); have y3 := hc 3 (by decide); rw [Nat.add_zero] at y0; have hB1 : ¬ B = w.heap.size := (fun e => by have h1 := hnb B rfl; have h2 := HW2.out; omega); have hB2 : ¬ B = w.heap.size + 1 := (fun e => by have h1 := hnb B rfl; have h2 := HW2.out; omega); have HR := WirS.hide hr; have HF := WirS.hide hf; clear hr hf hb hc hnb)
  have hA1 := At.fr HA.out HF.out HNE.out.1
  have hK1 := At.fr HK.out HF.out HNE.out.2
  have k0 : u.cell? ⟨w.heap.size + 1, 0, none⟩ = some (.int .u8 0) := hK1.cell 0
  have k1 : u.cell? ⟨w.heap.size + 1, 1, none⟩ = some (.int .u8 0) := hK1.cell 1
  have k2 : u.cell? ⟨w.heap.size + 1, 2, none⟩ = some (.int .u8 0) := hK1.cell 2
  have k3 : u.cell? ⟨w.heap.size + 1, 3, none⟩ = some (.int .u8 0) := hK1.cell 3
  have kf0 := hK1.frozen 0
  have kf1 := hK1.frozen 1
  have kf2 := hK1.frozen 2
  have kf3 := hK1.frozen 3
  have a0 : u.cell? ⟨w.heap.size, 0, none⟩ = some (.int .u8 0) := hA1.cell 0
  have a1 : u.cell? ⟨w.heap.size, 1, none⟩ = some (.int .u8 0) := hA1.cell 1
  have a2 : u.cell? ⟨w.heap.size, 2, none⟩ = some (.int .u8 0) := hA1.cell 2
  have a3 : u.cell? ⟨w.heap.size, 3, none⟩ = some (.int .u8 0) := hA1.cell 3
  have af0 := hA1.frozen 0
  have af1 := hA1.frozen 1
  have af2 := hA1.frozen 2
  have af3 := hA1.frozen 3
  clear hA1 hK1 c1
  generalize hz0 : zs.getD 0 0 = z0 at *
  have HZ0 := WirS.hide hz0
  clear hz0
  generalize hz1 : zs.getD 1 0 = z1 at *
  have HZ1 := WirS.hide hz1
  clear hz1
  generalize hz2 : zs.getD 2 0 = z2 at *
  have HZ2 := WirS.hide hz2
  clear hz2
  generalize hz3 : zs.getD 3 0 = z3 at *
  have HZ3 := WirS.hide hz3
  clear hz3
  go_wp2_with fail
  refine wp_loop_rounds 5 ?_
  rw [rounds_succ]
  go_wp2_with fail
  rw [rounds_succ]
  go_wp2_with fail
  rw [rounds_succ]
  go_wp2_with fail
  rw [rounds_succ]
  go_wp2_with fail
  rw [rounds_succ]
  go_wp2_with fail
  refine bodyPost_ret (v := .agg #[.int .u8 z0, .int .u8 z1, .int .u8 z2, .int .u8 z3]) (by simp [results, Try.results118, go_sem, a0, a1, a2, a3]) rfl ?_
  have hst := (((((((((Fr.refl (fun k => k = w.heap.size ∨ k = w.heap.size + 1) u).setCell (w.heap.size + 1) 0 (.int .u8 z0) (fun _ => .inr rfl)).setCell (w.heap.size + 1) 1 (.int .u8 z1) (fun _ => .inr rfl)).setCell (w.heap.size + 1) 2 (.int .u8 z2) (fun _ => .inr rfl)).setCell (w.heap.size + 1) 3 (.int .u8 z3) (fun _ => .inr rfl)).setCell (w.heap.size) 0 (.int .u8 z0) (fun _ => .inl rfl)).setCell (w.heap.size) 1 (.int .u8 z1) (fun _ => .inl rfl)).setCell (w.heap.size) 2 (.int .u8 z2) (fun _ => .inl rfl)).setCell (w.heap.size) 3 (.int .u8 z3) (fun _ => .inl rfl))
  exact ⟨by rw [HZ0.out, HZ1.out, HZ2.out, HZ3.out], HR.out.fr hst (fun e => e.elim (fun e => HNE.out.1 e.symm) (fun e => HNE.out.2 e.symm)) (fun k hk e => by have := HOL.out k hk; omega), ((Fr.of_below HB0.out).trans' HF.out (fun _ _ h => h)).trans' hst (fun i hi e => absurd e (by omega))⟩
theorem rs_key (w : World) (R : Nat) (a : Option Addr) (c : Nat) (bs : List Int) (s : St) (h : RS w R a c bs s) (hs : bs.length ≤ 1099511627776) :
    Calls Try.prog 118 #[.pointer (some ⟨R, 0, none⟩)] w fun e w' => e = .returned (.agg #[.int .u8 ((rK bs s).1.getD 0 0), .int .u8 ((rK bs s).1.getD 1 0), .int .u8 ((rK bs s).1.getD 2 0), .int .u8 ((rK bs s).1.getD 3 0)]) ∧ RS w' R a c bs (rK bs s).2 ∧ Fr (fun k => k = R) w w' := by
  cases s with
  | inl f =>
    obtain ⟨hne, p, hp⟩ := h
    exact (key_fault w R a c bs p f.1 f.2 hp hne).mono fun e w' ⟨h1, h2, h3⟩ => ⟨h1, ⟨hne, p, h2⟩, h3⟩
  | inr p =>
    obtain ⟨hp, h⟩ := h
    by_cases h1 : bs.length < p + 4
    · have e1 : rK bs (.inr p) = ([0, 0, 0, 0], .inl (6, (p : Int))) := by
        have : rowO 4 bs p = .inl 6 := by unfold rowO; rw [if_pos h1]
        simp only [rK, this]
      rw [e1]
      exact (key_short w R a c bs p h hp hs h1).mono fun e w' ⟨h1, h2, h3⟩ => ⟨h1, ⟨show (6 : Int) ≠ 0 by decide, h2⟩, h3⟩
    · have e1 : rK bs (.inr p) = ((bs.drop p).take 4, .inr (p + 4)) := by
        have : rowO 4 bs p = .inr ((bs.drop p).take 4, p + 4) := by unfold rowO; rw [if_neg h1]
        simp only [rK, this]
      rw [e1]
      exact (key_ok w R a c bs p h (by omega) hs _ rfl).mono fun e w' ⟨h1, h2, h3⟩ => ⟨h1, ⟨by omega, h2⟩, h3⟩
set_option maxRecDepth 10000 in
set_option maxHeartbeats 4000000 in
theorem end_fault (w : World) (R : Nat) (a : Option Addr) (c : Nat) (bs : List Int) (p fe fa : Int) (h : RR w R a c bs p fe fa) (hfe : fe ≠ 0) :
    Calls Try.prog 36 #[.pointer (some ⟨R, 0, none⟩)] w fun e w' => e = .returned (.agg #[.int .i64 fe, .int .i64 fa]) ∧ Below w.heap.size w w' := by
  have e1 : (fe == 0) = false := by simpa using hfe
  clear hfe
  obtain ⟨W0, e0⟩ : ∃ X, X = w.alloc (.cells #[.int .i64 0, .int .i64 0] 55) := ⟨_, rfl⟩
  have hA : At W0 w.heap.size 55 [.int .i64 0, .int .i64 0] := by rw [e0]; exact At.new w _ [_, _]
  have hb0 : Below w.heap.size w W0 := by rw [e0]; exact Below.alloc (Below.refl _ _) (Nat.le_refl _) _
  have hRl := h.cell.lt
  have hne : ¬ w.heap.size = R := by omega
  have h0 := h.below hb0
  have c0 : W0.cell? ⟨R, 0, none⟩ = some (.slice a bs.length c) := h0.cell.cell 0
  have c1 : W0.cell? ⟨R, 1, none⟩ = some (.int .i64 p) := h0.cell.cell 1
  have c2 : W0.cell? ⟨R, 2, none⟩ = some (.int .i64 fe) := h0.cell.cell 2
  have c3 : W0.cell? ⟨R, 3, none⟩ = some (.int .i64 fa) := h0.cell.cell 3
  have a0 : W0.cell? ⟨w.heap.size, 0, none⟩ = some (.int .i64 0) := hA.cell 0
  have a1 : W0.cell? ⟨w.heap.size, 1, none⟩ = some (.int .i64 0) := hA.cell 1
  have af0 := hA.frozen 0
  have af1 := hA.frozen 1
  have HB0 := WirS.hide hb0
  have E0 := WirS.hide e0
  have H := WirS.hide h
  generalize bs.length = m at c0
  clear h0 h hA hb0 e0
  go_enter Try.func36, Try.ntmps36
  go_upto_region 1 with fail
  rw [← E0.out]
  clear E0
  go_quiet (fail)
  go_wp2_with fail
  refine bodyPost_ret (v := .agg #[.int .i64 fe, .int .i64 fa]) (by simp [results, Try.results36, go_sem, a0, a1]) rfl ?_
  have hbF := ((below_drewN HB0.out nq).setCell (p := ⟨w.heap.size, 0, none⟩) (Nat.le_refl _) (.int .i64 fe)).setCell (p := ⟨w.heap.size, 1, none⟩) (Nat.le_refl _) (.int .i64 fa)
  exact ⟨rfl, hbF⟩
set_option maxRecDepth 10000 in
set_option maxHeartbeats 4000000 in
theorem end_more (w : World) (R : Nat) (a : Option Addr) (c : Nat) (bs : List Int) (p fe fa : Int) (h : RR w R a c bs p fe fa) (hfe : fe = 0) (hp : p < (bs.length : Int)) :
    Calls Try.prog 36 #[.pointer (some ⟨R, 0, none⟩)] w fun e w' => e = .returned (.agg #[.int .i64 4, .int .i64 p]) ∧ Below w.heap.size w w' := by
  subst hfe
  obtain ⟨W0, e0⟩ : ∃ X, X = w.alloc (.cells #[.int .i64 0, .int .i64 0] 55) := ⟨_, rfl⟩
  have hA : At W0 w.heap.size 55 [.int .i64 0, .int .i64 0] := by rw [e0]; exact At.new w _ [_, _]
  have hb0 : Below w.heap.size w W0 := by rw [e0]; exact Below.alloc (Below.refl _ _) (Nat.le_refl _) _
  have hRl := h.cell.lt
  have hne : ¬ w.heap.size = R := by omega
  have h0 := h.below hb0
  have c0 : W0.cell? ⟨R, 0, none⟩ = some (.slice a bs.length c) := h0.cell.cell 0
  have c1 : W0.cell? ⟨R, 1, none⟩ = some (.int .i64 p) := h0.cell.cell 1
  have c2 : W0.cell? ⟨R, 2, none⟩ = some (.int .i64 0) := h0.cell.cell 2
  have c3 : W0.cell? ⟨R, 3, none⟩ = some (.int .i64 fa) := h0.cell.cell 3
  have a0 : W0.cell? ⟨w.heap.size, 0, none⟩ = some (.int .i64 0) := hA.cell 0
  have a1 : W0.cell? ⟨w.heap.size, 1, none⟩ = some (.int .i64 0) := hA.cell 1
  have af0 := hA.frozen 0
  have af1 := hA.frozen 1
  have HB0 := WirS.hide hb0
  have E0 := WirS.hide e0
  have H := WirS.hide h
  generalize bs.length = m at c0 hp
  have hd : decide (p < (m : Int)) = true := by simpa using hp
  clear h0 h hA hb0 e0
  go_enter Try.func36, Try.ntmps36
  go_upto_region 1 with fail
  rw [← E0.out]
  clear E0
  go_quiet (fail)
  go_wp2_with fail
  refine bodyPost_ret (v := .agg #[.int .i64 4, .int .i64 p]) (by simp [results, Try.results36, go_sem, a0, a1]) rfl ?_
  have hbF := ((below_drewN HB0.out nq).setCell (p := ⟨w.heap.size, 0, none⟩) (Nat.le_refl _) (.int .i64 4)).setCell (p := ⟨w.heap.size, 1, none⟩) (Nat.le_refl _) (.int .i64 p)
  exact ⟨rfl, hbF⟩
set_option maxRecDepth 10000 in
set_option maxHeartbeats 4000000 in
theorem end_fine (w : World) (R : Nat) (a : Option Addr) (c : Nat) (bs : List Int) (p fe fa : Int) (h : RR w R a c bs p fe fa) (hfe : fe = 0) (hp : ¬ p < (bs.length : Int)) :
    Calls Try.prog 36 #[.pointer (some ⟨R, 0, none⟩)] w fun e w' => e = .returned (.agg #[.int .i64 0, .int .i64 fa]) ∧ Below w.heap.size w w' := by
  subst hfe
  obtain ⟨W0, e0⟩ : ∃ X, X = w.alloc (.cells #[.int .i64 0, .int .i64 0] 55) := ⟨_, rfl⟩
  have hA : At W0 w.heap.size 55 [.int .i64 0, .int .i64 0] := by rw [e0]; exact At.new w _ [_, _]
  have hb0 : Below w.heap.size w W0 := by rw [e0]; exact Below.alloc (Below.refl _ _) (Nat.le_refl _) _
  have hRl := h.cell.lt
  have hne : ¬ w.heap.size = R := by omega
  have h0 := h.below hb0
  have c0 : W0.cell? ⟨R, 0, none⟩ = some (.slice a bs.length c) := h0.cell.cell 0
  have c1 : W0.cell? ⟨R, 1, none⟩ = some (.int .i64 p) := h0.cell.cell 1
  have c2 : W0.cell? ⟨R, 2, none⟩ = some (.int .i64 0) := h0.cell.cell 2
  have c3 : W0.cell? ⟨R, 3, none⟩ = some (.int .i64 fa) := h0.cell.cell 3
  have a0 : W0.cell? ⟨w.heap.size, 0, none⟩ = some (.int .i64 0) := hA.cell 0
  have a1 : W0.cell? ⟨w.heap.size, 1, none⟩ = some (.int .i64 0) := hA.cell 1
  have af0 := hA.frozen 0
  have af1 := hA.frozen 1
  have HB0 := WirS.hide hb0
  have E0 := WirS.hide e0
  have H := WirS.hide h
  generalize bs.length = m at c0 hp
  have hd : decide (p < (m : Int)) = false := by simpa using hp
  clear h0 h hA hb0 e0
  go_enter Try.func36, Try.ntmps36
  go_upto_region 1 with fail
  rw [← E0.out]
  clear E0
  go_quiet (fail)
  go_wp2_with fail
  refine bodyPost_ret (v := .agg #[.int .i64 0, .int .i64 fa]) (by simp [results, Try.results36, go_sem, a0, a1]) rfl ?_
  have hbF := ((below_drewN HB0.out nq).setCell (p := ⟨w.heap.size, 0, none⟩) (Nat.le_refl _) (.int .i64 0)).setCell (p := ⟨w.heap.size, 1, none⟩) (Nat.le_refl _) (.int .i64 fa)
  exact ⟨rfl, hbF⟩
theorem rs_end (w : World) (R : Nat) (a : Option Addr) (c : Nat) (bs : List Int) (s : St) (h : RS w R a c bs s) :
    Calls Try.prog 36 #[.pointer (some ⟨R, 0, none⟩)] w fun e w' => e = .returned (.agg #[.int .i64 (endS bs s).1, .int .i64 (endS bs s).2]) ∧ Below w.heap.size w w' := by
  cases s with
  | inl f =>
    obtain ⟨hne, p, hp⟩ := h
    exact end_fault w R a c bs p f.1 f.2 hp hne
  | inr p =>
    obtain ⟨hp, h⟩ := h
    unfold endS
    by_cases h1 : p < bs.length
    · simp only [h1, if_true]
      exact end_more w R a c bs p 0 0 h rfl (by omega)
    · simp only [h1, if_false]
      exact end_fine w R a c bs p 0 0 h rfl (by omega)
end ValSD
end Go.Proofs.Ythcemghamdmjmaa

namespace Go.Proofs.Ythcemghamdmjmaa
namespace ValSE
open Go.RowKit
open BlkM WirM WirS ValK ValSA ValSC

theorem RS.fr {X : Nat → Prop} {w w' : World} {R : Nat} {a : Option Addr} {c : Nat} {bs : List Int} {s : St} (h : RS w R a c bs s) (hf : Fr X w w') (h1 : ¬ X R) (h2 : ∀ k, (Value.slice a bs.length c).ownBlock = some k → ¬ X k) : RS w' R a c bs s := by
  cases s with
  | inl f =>
    obtain ⟨hne, p, hp⟩ := h
    exact ⟨hne, p, hp.fr hf h1 h2⟩
  | inr p =>
    obtain ⟨hp, h⟩ := h
    exact ⟨hp, h.fr hf h1 h2⟩
theorem RS.below {w w' : World} {R : Nat} {a : Option Addr} {c : Nat} {bs : List Int} {s : St} (h : RS w R a c bs s) (hb : Below w.heap.size w w') : RS w' R a c bs s := RS.fr h (X := fun _ => False) (Fr.of_below hb) (fun h => h) (fun _ _ h => h)
end ValSE
end Go.Proofs.Ythcemghamdmjmaa

