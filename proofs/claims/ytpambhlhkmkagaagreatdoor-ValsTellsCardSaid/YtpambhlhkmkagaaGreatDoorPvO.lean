/-
  ValK0, ValJ, ValK, ValL, ValH, ValM, ValN, in one text.
-/
import Derived.Test.YtpambhlhkmkagaaGreatDoorPvH
import Derived.Test.YtpambhlhkmkagaaGreatDoorPvM
import Derived.Test.YtpambhlhkmkagaaGreatDoorPvI
import Derived.Laws.OwnMore
namespace Go.Proofs.YtpambhlhkmkagaaGreatDoor
namespace ValK
open Go.RowKit
open BlkM WirM WirS
open WirG (RSt)
open WirH (bin_sub)
open WirJ (numO outOf)
open WirK (numO_ok)
open WirI (ReadPost)
open WirO (rowO)
open WirP (aggB)
open WirT (fault endE endA)
open WirX (Thg Bag)
open WirAA (num_code row_code)
open WirRT (rng)

/-- A fault, or where the reader stands. -/
abbrev St := Sum (Int × Int) Nat
/-- A reader in such a state. -/
def rdS (R : Nat) (a : Option Addr) (c : Nat) (bs : List Int) (s : St) : Thg where
  ok w := match s with
    | .inl f => f.1 ≠ 0 ∧ ∃ p, RSt w R a c bs p f.1 f.2
    | .inr p => RSt w R a c bs p 0 0
  foot k := k = R ∨ (Value.slice a bs.length c).ownBlock = some k
  stable {X w w'} h hf hX := by
    cases s with
    | inl f => exact ⟨h.1, h.2.imp fun p hp => hp.fr hf (hX R (.inl rfl)) (fun k hk => hX k (.inr hk))⟩
    | inr p => exact RSt.fr h hf (hX R (.inl rfl)) (fun k hk => hX k (.inr hk))
  inside {w} h k hk := by
    cases s with
    | inl f =>
      obtain ⟨p, hp⟩ := h.2
      rcases hk with rfl | hk
      · exact hp.lt
      · exact hp.olt k hk
    | inr p =>
      have hp : RSt w R a c bs p 0 0 := h
      rcases hk with rfl | hk
      · exact hp.lt
      · exact hp.olt k hk
theorem bag_rdS {w0 w w' : World} {l : List Thg} {R : Nat} {a : Option Addr} {c : Nat} {bs : List Int} (h : Bag w0 w l) (hR : w.heap.size ≤ R) (hs : RSt w' R a c bs 0 0 0) (hn : WirE.NewB w (.slice a bs.length c)) (hb : Below w.heap.size w w') : Bag w0 w' (rdS R a c bs (.inr 0) :: l) :=
  h.new hb hs (fun k hk => by
    rcases hk with rfl | hk
    · exact hR
    · exact hn k hk)
/-- A number is read; a key is. -/
def rN (bs : List Int) : St → Int × St
  | .inl f => (0, .inl f)
  | .inr p => match numO bs p with
    | .inl c => (0, .inl (c, (p : Int)))
    | .inr x => (x.1, .inr x.2)
def rK (bs : List Int) : St → List Int × St
  | .inl f => ([0, 0, 0, 0], .inl f)
  | .inr p => match rowO 4 bs p with
    | .inl c => ([0, 0, 0, 0], .inl (c, (p : Int)))
    | .inr x => (x.1, .inr x.2)
theorem rK_len (bs : List Int) (s : St) : (rK bs s).1.length = 4 := by
  unfold rK
  cases s with
  | inl f => rfl
  | inr p =>
    cases h : rowO 4 bs p with
    | inl c => simp only [h]; rfl
    | inr x =>
      simp only [h]
      unfold rowO at h
      split at h
      · cases h
      · cases h
        simp only [List.length_take, List.length_drop]
        omega
theorem rK_rng {bs : List Int} (hr : rng bs) (s : St) : rng (rK bs s).1 := by
  unfold rK
  cases s with
  | inl f => intro x hx; simp at hx; omega
  | inr p =>
    cases h : rowO 4 bs p with
    | inl c => simp only [h]; intro x hx; simp at hx; omega
    | inr x =>
      simp only [h]
      unfold rowO at h
      split at h
      · cases h
      · cases h
        exact WirRT.rng_part hr p 4
theorem rN_ok {bs : List Int} (hr : rng bs) (s : St) : 0 ≤ (rN bs s).1 ∧ (rN bs s).1 ≤ 9223372036854775807 := by
  unfold rN
  cases s with
  | inl f => simp
  | inr p =>
    cases h : numO bs p with
    | inl c => simp [h]
    | inr x =>
      simp only [h]
      have := numO_ok hr h
      omega
/-- What the reader tells in the end. -/
def endS (bs : List Int) : St → Int × Int
  | .inl f => f
  | .inr p => if p < bs.length then (4, (p : Int)) else (0, 0)
/-! ### The calls -/
theorem s_num {w0 w : World} {l : List Thg} {R : Nat} {a : Option Addr} {c : Nat} {bs : List Int} {s : St} (h : Bag w0 w (rdS R a c bs s :: l)) :
    Calls Tryz.prog 40 #[.pointer (some ⟨R, 0, none⟩)] w fun e w' => e = .returned (.int .i64 (rN bs s).1) ∧ Bag w0 w' (rdS R a c bs (rN bs s).2 :: l) := by
  cases s with
  | inl f =>
    obtain ⟨hne, p, hp⟩ := h.head
    exact (WirL.num_fault w R a c bs p f.1 f.2 hp hne).mono fun e w' ⟨h1, h2⟩ => ⟨h1, h.more h2⟩
  | inr p =>
    have hp : RSt w R a c bs p 0 0 := h.head
    refine (WirL.num_read w R a c bs p hp).mono fun e w' hq => ?_
    unfold rN
    cases ho : numO bs p with
    | inl c =>
      rw [ho] at hq
      obtain ⟨h1, h2, h3⟩ := hq
      simp only [ho]
      exact ⟨h1, h.act (h3.mono fun _ _ hx => .inl hx) ⟨num_code ho, h2⟩ (fun _ hk => .inl hk)⟩
    | inr x =>
      rw [ho] at hq
      obtain ⟨v, h1, h2, h3, h4⟩ := hq
      simp only [ho]
      exact ⟨by rw [h1, h2], h.act (h4.mono fun _ _ hx => .inl hx) h3 (fun _ hk => .inl hk)⟩
theorem agg4 (k : List Int) (h : k.length = 4) : aggB k = .agg #[.int .u8 (k.getD 0 0), .int .u8 (k.getD 1 0), .int .u8 (k.getD 2 0), .int .u8 (k.getD 3 0)] := by
  obtain _ | ⟨a, _ | ⟨b, _ | ⟨c, _ | ⟨d, _ | ⟨e, l⟩⟩⟩⟩⟩ := k <;> simp at h
  rfl
theorem s_key {w0 w : World} {l : List Thg} {R : Nat} {a : Option Addr} {c : Nat} {bs : List Int} {s : St} (h : Bag w0 w (rdS R a c bs s :: l)) :
    Calls Tryz.prog 41 #[.pointer (some ⟨R, 0, none⟩)] w fun e w' => e = .returned (.agg #[.int .u8 ((rK bs s).1.getD 0 0), .int .u8 ((rK bs s).1.getD 1 0), .int .u8 ((rK bs s).1.getD 2 0), .int .u8 ((rK bs s).1.getD 3 0)]) ∧ Bag w0 w' (rdS R a c bs (rK bs s).2 :: l) := by
  rw [← agg4 _ (rK_len bs s)]
  cases s with
  | inl f =>
    obtain ⟨hne, p, hp⟩ := h.head
    exact (WirR.key_fault w R a c bs p f.1 f.2 hp hne).mono fun e w' ⟨h1, h2⟩ => ⟨h1, h.more h2⟩
  | inr p =>
    have hp : RSt w R a c bs p 0 0 := h.head
    refine (WirR.key_read w R a c bs p hp).mono fun e w' hq => ?_
    unfold rK
    cases ho : rowO 4 bs p with
    | inl c =>
      rw [ho] at hq
      obtain ⟨h1, h2, h3⟩ := hq
      simp only [ho]
      exact ⟨h1, h.act (h3.mono fun _ _ hx => .inl hx) ⟨row_code ho, h2⟩ (fun _ hk => .inl hk)⟩
    | inr x =>
      rw [ho] at hq
      obtain ⟨v, h1, h2, h3, h4⟩ := hq
      simp only [ho]
      exact ⟨by rw [h1, h2], h.act (h4.mono fun _ _ hx => .inl hx) h3 (fun _ hk => .inl hk)⟩
theorem s_end {w0 w : World} {l : List Thg} {R : Nat} {a : Option Addr} {c : Nat} {bs : List Int} {s : St} (h : Bag w0 w (rdS R a c bs s :: l)) :
    Calls Tryz.prog 42 #[.pointer (some ⟨R, 0, none⟩)] w fun e w' => e = .returned (.agg #[.int .i64 (endS bs s).1, .int .i64 (endS bs s).2]) ∧ Bag w0 w' (rdS R a c bs s :: l) := by
  cases s with
  | inl f =>
    obtain ⟨hne, p, hp⟩ := h.head
    refine (WirT.end_any w R a c bs p f.1 f.2 hp).mono fun e w' ⟨h1, h2⟩ => ⟨?_, h.more h2⟩
    have h0 : ¬ 0 < WirL.restN bs p f.1 := by unfold WirL.restN; rw [if_neg hne]; omega
    rw [h1]
    unfold fault endE endA
    rw [if_neg h0, if_neg h0]
    rfl
  | inr p =>
    have hp : RSt w R a c bs p 0 0 := h.head
    refine (WirT.end_any w R a c bs p 0 0 hp).mono fun e w' ⟨h1, h2⟩ => ⟨?_, h.more h2⟩
    rw [h1]
    have hle := hp.le
    unfold fault endE endA WirL.restN endS
    by_cases hlt : p < bs.length
    · simp [hlt]
    · have : p = bs.length := by omega
      simp [this]
end ValK
end Go.Proofs.YtpambhlhkmkagaaGreatDoor

namespace Go.Proofs.YtpambhlhkmkagaaGreatDoor
namespace ValJ
open Go.RowKit
open BlkM WirM WirS ValA ValB ValC ValD ValP
open WirA (WSt Wrote putZ putE)
open WirD (numB numB_len nb_le nb)
open WirE (newB_nil NewB)
open WirX (Thg Bag BW bw_of wtr bag_wtr own bag_own)
open WirAA (box bag_box)

/-- A set's bytes, of each validator and of the first ones. -/
def item (x : Vd) : List Int := x.key ++ numB x.p
def items (vs : List Vd) : List Int := vs.flatMap item
def enc (vs : List Vd) : List Int := numB (vs.length : Int) ++ items vs
theorem items_app (a b : List Vd) : items (a ++ b) = items a ++ items b := by simp [items]
theorem items_succ {vs : List Vd} {k : Nat} {x : Vd} (h : vs[k]? = some x) : items (vs.take (k + 1)) = items (vs.take k) ++ (x.key ++ numB x.p) := by
  rw [List.take_add_one, h, items_app]
  simp [items, item]
theorem items_len : ∀ vs : List Vd, (∀ x ∈ vs, x.ok) → (items vs).length ≤ 13 * vs.length
  | [], _ => by simp [items]
  | x :: l, h => by
    have h1 := numB_le x.p (by have := (h x (by simp)).p; omega)
    have h2 := items_len l (fun y hy => h y (by simp [hy]))
    have e : items (x :: l) = (x.key ++ numB x.p) ++ items l := by simp [items, item]
    rw [e]
    simp only [List.length_append, List.length_cons, Vd.key, List.length_nil]
    omega
theorem w_key {w0 w : World} {l : List Thg} {W : Nat} {lim : Int} {v : Value} {ys : List Int} (x : Vd) (h : Bag w0 w (wtr W lim v ys 0 :: l)) (hl : ((ys.length + 4 : Nat) : Int) ≤ lim) :
    Calls Tryz.prog 28 #[.pointer (some ⟨W, 0, none⟩), .agg #[.int .u8 x.a, .int .u8 x.b, .int .u8 x.c, .int .u8 x.d]] w (Wr w0 l W lim (ys ++ x.key)) := by
  obtain ⟨e1, e2⟩ := w_ok (news := x.key) hl
  have C := bw_of h (WirF.key_any w W lim v ys 0 x.key rfl h.head)
  rw [e1, e2] at C
  exact C
set_option maxRecDepth 10000 in
set_option maxHeartbeats 2000000 in
theorem encode_bad (w : World) (a : Option Addr) (n c : Nat) (vs : List Vd) (h : VIn w a n c vs) (hc : chk vs ≠ 0) :
    Calls Tryz.prog 10 #[.slice a n c] w fun e w' => e = .returned (.tuple #[.slice none 0 0, .int .i64 (chk vs)]) ∧ Below w.heap.size w w' := by
  have HC := WirS.hide (check_any w a n c vs h)
  generalize chk vs = cd at *
  have hn0 : (cd == 0) = false := by simpa using hc
  have hn1 : (cd != 0) = true := by simpa using hc
  clear h hc
  go_enter Tryz.func10, Tryz.ntmps10
  go_wp2_with ((go_at_call 15; refine (HC.out).mono ?_; rintro e u ⟨rfl, hb⟩; have HU := WirS.hide hb; clear hb))
  go_ret2
  exact ⟨rfl, HU.out⟩
def MidE (w : World) (W n : Nat) (vs : List Vd) (i : Value) (U : World) : Prop :=
  ∃ (k : Nat) (v : Value), k ≤ n ∧ i = .int .i64 (k : Int) ∧ Bag w U [wtr W 1048576 v (numB (n : Int) ++ items (vs.take k)) 0]
set_option maxRecDepth 10000 in
set_option maxHeartbeats 4000000 in
theorem encode_ok (w : World) (a : Option Addr) (n c : Nat) (vs : List Vd) (h : VIn w a n c vs) (hc : chk vs = 0) :
    Calls Tryz.prog 10 #[.slice a n c] w fun e w' => ∃ va vn vc, e = .returned (.tuple #[.slice va vn vc, .int .i64 0]) ∧ WirM.Own w' 5 (.slice va vn vc) (enc vs) ∧ NewB w (.slice va vn vc) ∧ Below w.heap.size w w' := by
  obtain ⟨v0, v64, hup, hpw⟩ := (chk_up vs).1 hc
  have hlen := h.len
  have HC := WirS.hide (check_any w a n c vs h)
  rw [hc] at HC
  have hn64 : n ≤ 64 := by omega
  have H := WirS.hide h
  have HL := WirS.hide hlen
  have HP := WirS.hide hpw
  have HIL := WirS.hide (fun k => Nat.le_trans (items_len (vs.take k) (fun x hx => h.ok x (List.mem_of_mem_take hx))) (Nat.mul_le_mul_left 13 (List.length_take_le' k vs)))
  have HNL := WirS.hide (numB_le (n : Int) (by omega))
  clear h hc v0 v64 hup hpw hlen
  go_enter Tryz.func10, Tryz.ntmps10
  go_upto_region 4 with ((go_at_call 15; refine (HC.out).mono ?_; rintro e w1 ⟨rfl, hb⟩; have HB1 := WirS.hide (Bag.nil hb); clear hb))
  go_upto_region 7 with ((go_at_call 26; refine (WirF.new_any _ 1048576 (by omega) (by omega)).mono ?_; rintro e w2 ⟨W, rfl, hW, hs, hb2⟩; have H2 := WirS.hide (bag_wtr HB1.out hW hs (newB_nil _ _ _) hb2); clear hW hs hb2 HB1))
  have HN := WirS.hide (w_num (n : Int) H2.out (by omega) (by omega) (by have := HNL.out; simp; omega))
  rw [List.nil_append] at HN
  go_upto_region 8 with ((go_at_call 27; refine (HN.out).mono ?_; rintro e w3 ⟨rfl, v3, hb⟩; have H3 := WirS.hide hb; clear hb HN H2))
  go_wp2_with fail
  go_loopw [27] (fun i wr => MidE w W n vs i wr) (fun i _ => n - (intOf i).toNat)
  case atStart => exact ⟨0, v3, Nat.zero_le _, rfl, by rw [List.take_zero]; simpa [items] using H3.out⟩
  case round =>
    clear H3
    obtain ⟨k, v, hk, rfl, hB⟩ := hrel
    by_cases hlt : k < n
    · obtain ⟨x, B, o, hx, hmem, rfl, hBl, hr⟩ := (H.out.below hB.low).cell hlt
      have r0 : wr.cell? ⟨B, o + k * 5, none⟩ = some (.int .u8 x.a) := hr 0 _ rfl
      have r1 : wr.cell? ⟨B, o + k * 5 + 1, none⟩ = some (.int .u8 x.b) := hr 1 _ rfl
      have r2 : wr.cell? ⟨B, o + k * 5 + 2, none⟩ = some (.int .u8 x.c) := hr 2 _ rfl
      have r3 : wr.cell? ⟨B, o + k * 5 + 3, none⟩ = some (.int .u8 x.d) := hr 3 _ rfl
      have r4 : wr.cell? ⟨B, o + k * 5 + 4, none⟩ = some (.int .i64 x.p) := hr 4 _ rfl
      have hkl : (k : Int) < (n : Int) := by omega
      obtain ⟨X, hXe⟩ : ∃ X, X = wr.heap.size := ⟨_, rfl⟩
      have hbx := (bag_box (T := 55) (cs := x.cells) hB hXe (w' := wr.alloc (.cells #[.int .u8 x.a, .int .u8 x.b, .int .u8 x.c, .int .u8 x.d, .int .i64 x.p] 55)) (by rw [hXe]; exact At.new wr _ _) (Below.alloc (Below.refl _ _) (Nat.le_refl _) _)).swap
      have hps := HP.out x hmem
      have hil := HIL.out k
      have hnl := HNL.out
      have hxl := numB_le x.p (by omega)
      have hvl := HL.out
      have hil2 : (items (vs.take k)).length ≤ 832 := Nat.le_trans hil (by omega)
      have HK := WirS.hide (w_key x hbx (by rw [List.length_append]; omega))
      have HNX := WirS.hide (fun (U : World) (v' : Value) (hb : Bag w U [wtr W 1048576 v' ((numB (n : Int) ++ items (vs.take k)) ++ x.key) 0, box 55 X x.cells]) => w_num x.p hb (by omega) (by omega) (by simp only [List.length_append, Vd.key, List.length_cons, List.length_nil]; omega))
      have HXX := WirS.hide hx
      clear hr hx hmem hB hbx hps hil hnl hxl hvl hil2
      go_wp2_with (first | (go_at_call 28; refine (HK.out).mono ?_; rintro e u1 ⟨rfl, v1, hb1⟩; have HB1 := WirS.hide hb1; have d4 : u1.cell? ⟨X, 4, none⟩ = some (.int .i64 x.p) := hb1.swap.head.cell 4; rw [hXe] at d4; clear hb1) | (go_at_call 27; refine (HNX.out _ _ HB1.out).mono ?_; rintro e u2 ⟨rfl, v2, hb2⟩; have HB2 := WirS.hide hb2; clear hb2))
      go_roundw
      case rel => exact ⟨k + 1, v2, by omega, by go_num, by rw [items_succ HXX.out, ← List.append_assoc, ← List.append_assoc]; exact HB2.out.swap.drop⟩
      case measure => simp [intOf]; omega
    · obtain rfl : k = n := by omega
      have hD := WirF.done_ok wr W 1048576 v _ hB.head
      rw [List.take_of_length_le (by rw [HL.out]; exact Nat.le_refl _)] at hD
      rw [show numB (k : Int) ++ items vs = enc vs by unfold enc; rw [HL.out]] at hD
      have HD := WirS.hide hD
      have HBl := WirS.hide hB.low
      clear hB hD
      go_wp2_with ((go_at_call 29; refine (HD.out).mono ?_; rintro e u2 ⟨da, dn, dc, rfl, ho, hnw, hb⟩; have HO := WirS.hide ho; have HNW := WirS.hide hnw; have HB2 := WirS.hide hb; clear ho hnw hb))
      go_ret2
      exact ⟨_, _, _, rfl, HO.out, fun q hq => Nat.le_trans HBl.out.size (HNW.out q hq), HBl.out.trans (HB2.out.mono HBl.out.size)⟩
end ValJ
end Go.Proofs.YtpambhlhkmkagaaGreatDoor

namespace Go.Proofs.YtpambhlhkmkagaaGreatDoor
namespace ValK
open Go.RowKit
open BlkM WirM WirS ValA ValB ValC ValD ValP ValJ
open WirG (RSt)
open WirH (bin_sub)
open WirJ (numO outOf)
open WirK (numO_ok)
open WirI (ReadPost)
open WirO (rowO)
open WirP (aggB)
open WirT (fault endE endA)
open WirX (Thg Bag)
open WirAA (num_code row_code)
open WirRT (rng)

def mkV (k : List Int) (p : Int) : Vd := ⟨k.getD 0 0, k.getD 1 0, k.getD 2 0, k.getD 3 0, p⟩
theorem mkV_ok {bs : List Int} (hr : rng bs) (s t : St) : (mkV (rK bs s).1 (rN bs t).1).ok := by
  have h1 := rK_rng hr s
  have h2 := rN_ok hr t
  have h3 := rK_len bs s
  have hg : ∀ i, i < 4 → 0 ≤ (rK bs s).1.getD i 0 ∧ (rK bs s).1.getD i 0 < 256 := fun i hi => by
    rw [List.getD_eq_getElem?_getD, List.getElem?_eq_getElem (by omega)]
    exact h1 _ (List.getElem_mem _)
  exact ⟨hg 0 (by decide), hg 1 (by decide), hg 2 (by decide), hg 3 (by decide), ⟨by have := h2.1; show -9223372036854775808 ≤ (rN bs t).1; omega, by have := h2.2; show (rN bs t).1 < 9223372036854775808; omega⟩⟩
/-- So many validators are read. -/
def itS (bs : List Int) (s : St) : Nat → List Vd × St
  | 0 => ([], s)
  | k + 1 => ((itS bs s k).1 ++ [mkV (rK bs (itS bs s k).2).1 (rN bs (rK bs (itS bs s k).2).2).1], (rN bs (rK bs (itS bs s k).2).2).2)
theorem itS_len (bs : List Int) (s : St) : ∀ k, (itS bs s k).1.length = k
  | 0 => rfl
  | k + 1 => by simp [itS, itS_len bs s k]
theorem itS_ok {bs : List Int} (hr : rng bs) (s : St) : ∀ k, ∀ x ∈ (itS bs s k).1, x.ok
  | 0 => fun x hx => by cases hx
  | k + 1 => fun x hx => by
    rcases List.mem_append.1 hx with hx | hx
    · exact itS_ok hr s k x hx
    · rw [List.mem_singleton.1 hx]
      exact mkV_ok hr _ _
/-- The fault, and the set. -/
def dec (bs : List Int) : (Int × Int) × List Vd :=
  if 64 < (rN bs (.inr 0)).1 then ((4, 0), []) else
  if (endS bs (itS bs (rN bs (.inr 0)).2 (rN bs (.inr 0)).1.toNat).2).1 ≠ 0 then (endS bs (itS bs (rN bs (.inr 0)).2 (rN bs (.inr 0)).1.toNat).2, []) else
  if chk (itS bs (rN bs (.inr 0)).2 (rN bs (.inr 0)).1.toNat).1 ≠ 0 then ((chk (itS bs (rN bs (.inr 0)).2 (rN bs (.inr 0)).1.toNat).1, 0), []) else
  ((0, 0), (itS bs (rN bs (.inr 0)).2 (rN bs (.inr 0)).1.toNat).1)

end ValK
end Go.Proofs.YtpambhlhkmkagaaGreatDoor

namespace Go.Proofs.YtpambhlhkmkagaaGreatDoor
namespace ValL
open Go.RowKit
open BlkM WirM WirS ValA ValB ValC ValD ValP ValJ ValK
open WirX (Thg Bag)
open WirAA (box bag_box bag_sets)
open WirRT (rng)
open WirE (NewB)

def z0 : Vd := ⟨0, 0, 0, 0, 0⟩
theorem cells_made (n : Nat) : (madeCells z0.cells.toArray (n * 5)).toList = cellsL (List.replicate n z0) := by
  apply List.ext_getElem?
  intro j
  by_cases hj : j < n * 5
  · have h1 := cellsL_get (List.replicate n z0) (j / 5) z0 (by rw [List.getElem?_replicate, if_pos (by omega)]) (j % 5) _ (List.getElem?_eq_getElem (show j % 5 < z0.cells.length by rw [cells_len]; omega))
    rw [show j / 5 * 5 + j % 5 = j by omega] at h1
    rw [h1]
    have h5 : j % 5 < 5 := Nat.mod_lt _ (by decide)
    simp [madeCells, hj, Vd.cells]
    rw [List.getElem?_eq_getElem (by simpa using h5)]
    rfl
  · rw [List.getElem?_eq_none (by rw [Array.length_toList, size_madeCells]; omega), List.getElem?_eq_none (by rw [cellsL_len, List.length_replicate]; omega)]
theorem mkL (a : Operand → Value) (o : Oper) (x y : Operand) (n : Nat) (ho : o.op = Op.makeSlice 22 x y) (hx : a x = .int .i64 (n : Int)) (hy : a y = .int .i64 (n : Int)) (hn : n ≤ 1000000) (W : World) :
    (execOp a o).run Tryz.prog W = .ok (.value (.slice (some ⟨W.heap.size, 0, none⟩) n n)) (W.alloc (.cells (cellsL (List.replicate n z0)).toArray 55)) := by
  obtain ⟨i0, hi, hz0, hz1, hz2⟩ := info_parts (show (Tryz.prog.info? 55).map (fun i => (i.zero, i.size, i.bytes)) = some (some (.agg z0.cells.toArray), 5, 16) by kernel_rfl)
  have hr := run_make (P := Tryz.prog) W 22 55 i0 _ Tryz.underlying22 hi hz0 .i64 .i64 (n : Int) (n : Int) (by omega) (Int.le_refl _) (by rw [hz2]; omega) (by omega)
  simp only [Int.toNat_natCast, hz1] at hr
  have hm : madeCells (Value.agg z0.cells.toArray).cells (n * 5) = (cellsL (List.replicate n z0)).toArray := by
    apply Array.ext'
    exact cells_made n
  rw [hm] at hr
  unfold execOp
  rw [ho]
  simp only [hx, hy]
  simp [hr]
theorem ix5 (B o ln lc k : Nat) (hk : k < ln) (W : World) : (Instr.indexAt 22 (.slice (some ⟨B, o, none⟩) ln lc) (.int .i64 (k : Int))).run Tryz.prog W = .ok (.pointer (some ⟨B, o + k * 5, none⟩)) W := by
  simp [Instr.indexAt, run_underlying Tryz.underlying22, asIntOf, go_sem]
  intro h
  omega
theorem op5 (a : Operand → Value) (ob : Oper) (x y : Operand) (B o ln lc k : Nat) (ho : ob.op = Op.indexAddr 22 x y) (hx : a x = .slice (some ⟨B, o, none⟩) ln lc) (hy : a y = .int .i64 (k : Int)) (hk : k < ln) (W : World) :
    (execOp a ob).run Tryz.prog W = .ok (.value (.pointer (some ⟨B, o + k * 5, none⟩))) W := by
  unfold execOp
  rw [ho]
  simp only [hx, hy]
  simp [ix5 B o ln lc k hk W]
theorem there5 {w : World} {X : Nat} {T : TypeId} {cs : List Value} (h : At w X T cs) (o n : Nat) (hl : o + n ≤ cs.length) : w.there X o n := fun j hj =>
  ⟨by rw [h.cell, List.getElem?_eq_getElem (by omega)]; rfl, h.frozen _⟩
theorem cellsL_put (ls : List Vd) (x : Vd) (m : Nat) : (cellsL (ls ++ List.replicate (m + 1) z0)).take (ls.length * 5) ++ (x.cells ++ (cellsL (ls ++ List.replicate (m + 1) z0)).drop (ls.length * 5 + x.cells.length)) = cellsL ((ls ++ [x]) ++ List.replicate m z0) := by
  have e : cellsL (List.replicate (m + 1) z0) = z0.cells ++ cellsL (List.replicate m z0) := by rw [List.replicate_succ]; simp [cellsL]
  have e2 : cellsL [x] = x.cells := by simp [cellsL]
  rw [cellsL_app, cellsL_app, cellsL_app, e2, e, List.take_left' (cellsL_len ls)]
  rw [← List.drop_drop, List.drop_left' (cellsL_len ls), List.drop_left' (by rw [cells_len]; rfl), List.append_assoc]
/-- Cells of a block: a set of memory of its own. -/
theorem own_at {w : World} {X n : Nat} {vs : List Vd} (h : At w X 55 (cellsL vs)) (hn : vs.length = n) (h64 : n ≤ 1000000) (hok : ∀ x ∈ vs, x.ok) : OwnV w (.slice (some ⟨X, 0, none⟩) n n) vs :=
  ⟨⟨cellsL_len vs, .inr ⟨X, n, _, by rw [hn], Nat.zero_le _, h, by omega, by unfold maxLen; omega, by rw [List.size_toArray, cellsL_len, hn], List.take_of_length_le (by rw [cellsL_len]; exact Nat.le_refl _)⟩⟩, hok⟩
def MidD (w : World) (R : Nat) (a : Option Addr) (c : Nat) (bs : List Int) (s : St) (S X n : Nat) (i : Value) (U : World) : Prop :=
  ∃ k : Nat, k ≤ n ∧ i = .int .i64 (k : Int) ∧ Bag w U [rdS R a c bs (itS bs s k).2, box 55 X (cellsL ((itS bs s k).1 ++ List.replicate (n - k) z0)), box 49 S [.int .i64 0, .int .i64 0]]
def DecP (w : World) (bs : List Int) (e : Ending) (w' : World) : Prop :=
  ∃ va vn vc, e = .returned (.tuple #[.slice va vn vc, .agg #[.int .i64 (dec bs).1.1, .int .i64 (dec bs).1.2]]) ∧ OwnV w' (.slice va vn vc) (dec bs).2 ∧ NewB w (.slice va vn vc) ∧ Below w.heap.size w w'
set_option maxRecDepth 10000 in
set_option maxHeartbeats 4000000 in
theorem decode_any (w : World) (b : Option Addr) (n c : Nat) (bs : List Int) (hb : BIn w (.slice b n c) bs) (hr : rng bs) (hn : n ≤ 1099511627776) :
    Calls Tryz.prog 20 #[.slice b n c] w (DecP w bs) := by
  obtain ⟨S, eS⟩ : ∃ S, S = w.heap.size := ⟨_, rfl⟩
  obtain ⟨W0, e0⟩ : ∃ X, X = w.alloc (.cells #[.int .i64 0, .int .i64 0] 49) := ⟨_, rfl⟩
  have hbag : Bag w W0 [box 49 S [.int .i64 0, .int .i64 0]] := bag_box (Bag.nil (Below.refl _ _)) eS (by rw [e0, eS]; exact At.new w _ _) (by rw [e0]; exact Below.alloc (Below.refl _ _) (Nat.le_refl _) _)
  have HRD := WirS.hide (WirT.newReader_any W0 b n c bs (hb.below hbag.low) hr hn)
  have H0 := WirS.hide hbag
  have E0 := WirS.hide e0
  have HR := WirS.hide hr
  obtain ⟨s0, es0⟩ : ∃ s0, (rN bs (.inr 0)).2 = s0 := ⟨_, rfl⟩
  obtain ⟨N, eN⟩ : ∃ N, (rN bs (.inr 0)).1 = N := ⟨_, rfl⟩
  have hN := rN_ok hr (.inr 0)
  rw [eN] at hN
  have hdec : dec bs = if 64 < N then ((4, 0), []) else if (endS bs (itS bs s0 N.toNat).2).1 ≠ 0 then (endS bs (itS bs s0 N.toNat).2, []) else if chk (itS bs s0 N.toNat).1 ≠ 0 then ((chk (itS bs s0 N.toNat).1, 0), []) else ((0, 0), (itS bs s0 N.toNat).1) := by
    unfold dec
    rw [es0, eN]
  have HD := WirS.hide hdec
  have HES := WirS.hide es0
  have HEN := WirS.hide eN
  have HSN := WirS.hide eS
  obtain ⟨hN0, hN1⟩ := hN
  clear hb hbag e0 hr hdec es0 eN
  go_enter Tryz.func20, Tryz.ntmps20
  go_upto_region 1 with fail
  rw [← E0.out]
  rw [← eS]
  clear eS
  go_upto_region 2 with ((go_at_call 39; refine (HRD.out).mono ?_; rintro e w2 ⟨R, a, c2, rfl, hR, hs, hnw, hb2⟩; have H2 := WirS.hide (bag_rdS H0.out hR hs hnw hb2); clear hR hs hnw hb2 H0 HRD))
  have HNum := WirS.hide (s_num H2.out)
  rw [HES.out, HEN.out] at HNum
  go_upto_region 3 with ((go_at_call 40; refine (HNum.out).mono ?_; rintro e w3 ⟨rfl, hb⟩; have H3 := WirS.hide hb; clear hb HNum H2))
  by_cases h64 : 64 < N
  · have HD2 := WirS.hide (show dec bs = ((4, 0), []) by rw [HD.out, if_pos h64])
    have hS := H3.out.swap.head
    have hlt := At.lt hS
    have c0 : w3.cell? ⟨S, 0, none⟩ = some (.int .i64 0) := At.cell hS 0
    have c1 : w3.cell? ⟨S, 1, none⟩ = some (.int .i64 0) := At.cell hS 1
    have f0 := At.frozen hS 0
    have f1 := At.frozen hS 1
    have HB := WirS.hide H3.out.low
    clear hS
    go_wp2_with fail
    refine bodyPost_ret (v := .tuple #[.slice none 0 0, .agg #[.int .i64 4, .int .i64 0]]) (by simp [results, Tryz.results20, go_sem, c0, c1]) rfl ⟨none, 0, 0, by rw [HD2.out], by rw [HD2.out]; exact OwnV.nil _, fun q hq => by simp [Value.ownBlock] at hq, ?_⟩
    exact (HB.out.setCell (by rw [← HSN.out]; exact Nat.le_refl _) _).setCell (by rw [← HSN.out]; exact Nat.le_refl _) _
  obtain ⟨m, rfl⟩ : ∃ m : Nat, N = (m : Int) := ⟨N.toNat, by omega⟩
  have HD2 := WirS.hide (show dec bs = if (endS bs (itS bs s0 m).2).1 ≠ 0 then (endS bs (itS bs s0 m).2, []) else if chk (itS bs s0 m).1 ≠ 0 then ((chk (itS bs s0 m).1, 0), []) else ((0, 0), (itS bs s0 m).1) by rw [HD.out, if_neg h64, Int.toNat_natCast])
  clear HD
  have hm64 : m ≤ 64 := by omega
  go_upto_region 5 with fail
  refine wp_region_lit ?_
  refine sV (.int .i64 (m : Int)) (w3) (by kernel_rfl) (by kernel_rfl) ?_
  simp only [Act.put, List.setIfInBounds_toArray, List.set_cons_succ, List.set_cons_zero]
  refine sV (.slice (some ⟨w3.heap.size, 0, none⟩) m m) (w3.alloc (.cells (cellsL (List.replicate m z0)).toArray 55)) (by kernel_rfl) (mkL _ _ _ _ m (by rfl) (by kernel_rfl) (by kernel_rfl) (by omega) w3) ?_
  simp only [Act.put, List.setIfInBounds_toArray, List.set_cons_succ, List.set_cons_zero]
  obtain ⟨X, eX⟩ : ∃ X, X = w3.heap.size := ⟨_, rfl⟩
  have H4 := WirS.hide (bag_box (T := 55) (cs := cellsL (List.replicate m z0)) H3.out eX (w' := w3.alloc (.cells (cellsL (List.replicate m z0)).toArray 55)) (by rw [eX]; exact At.new w3 _ _) (Below.alloc (Below.refl _ _) (Nat.le_refl _) _)).swap
  rw [← eX]
  clear eX H3
  generalize World.alloc w3 _ = w4 at *
  go_wp2_with fail
  go_loopw [21] (fun i wr => MidD w R a c2 bs s0 S X m i wr) (fun i _ => m - (intOf i).toNat)
  case atStart => exact ⟨0, Nat.zero_le _, rfl, H4.out⟩
  case round =>
    clear H4
    obtain ⟨k, hk, rfl, hB⟩ := hrel
    by_cases hlt : k < m
    · have hkl : (k : Int) < (m : Int) := by omega
      obtain ⟨q, hq⟩ : ∃ q, m - k = q + 1 := ⟨m - k - 1, by omega⟩
      rw [hq] at hB
      obtain ⟨kl, ekl⟩ : ∃ y, (rK bs (itS bs s0 k).2).1 = y := ⟨_, rfl⟩
      obtain ⟨s1, es1⟩ : ∃ y, (rK bs (itS bs s0 k).2).2 = y := ⟨_, rfl⟩
      obtain ⟨pn, epn⟩ : ∃ y, (rN bs s1).1 = y := ⟨_, rfl⟩
      obtain ⟨s2, es2⟩ : ∃ y, (rN bs s1).2 = y := ⟨_, rfl⟩
      have HIT := WirS.hide (show itS bs s0 (k + 1) = ((itS bs s0 k).1 ++ [mkV kl pn], s2) by rw [itS, ekl, es1, epn, es2])
      have hkey := s_key hB
      rw [ekl, es1] at hkey
      have HK := WirS.hide hkey
      have HN := WirS.hide (fun (U : World) (l : List Thg) (h : Bag w U (rdS R a c2 bs s1 :: l)) => show Calls Tryz.prog 40 #[.pointer (some ⟨R, 0, none⟩)] U (fun e w' => e = .returned (.int .i64 pn) ∧ Bag w w' (rdS R a c2 bs s2 :: l)) from by
        have := s_num h
        rw [epn, es2] at this
        exact this)
      have HLN := WirS.hide (itS_len bs s0 k)
      have HQ := WirS.hide hq
      clear hB hkey hq ekl es1 epn es2
      go_upto_region 9 with fail
      refine wp_region_lit ?_
      refine sV (.slice (some ⟨X, 0, none⟩) m m) (wr) (by kernel_rfl) (by kernel_rfl) ?_
      simp only [Act.put, List.setIfInBounds_toArray, List.set_cons_succ, List.set_cons_zero]
      refine sV (.int .i64 (k : Int)) (wr) (by kernel_rfl) (by kernel_rfl) ?_
      simp only [Act.put, List.setIfInBounds_toArray, List.set_cons_succ, List.set_cons_zero]
      refine sV (.pointer (some ⟨R, 0, none⟩)) (wr) (by kernel_rfl) (by kernel_rfl) ?_
      simp only [Act.put, List.setIfInBounds_toArray, List.set_cons_succ, List.set_cons_zero]
      refine sC (by kernel_rfl) (by kernel_rfl) HK.out ?_
      rintro u1 hb1
      simp only [Act.put, List.setIfInBounds_toArray, List.set_cons_succ, List.set_cons_zero]
      have HB1 := WirS.hide hb1
      clear hb1
      refine sV (.pointer (some ⟨R, 0, none⟩)) (u1) (by kernel_rfl) (by kernel_rfl) ?_
      simp only [Act.put, List.setIfInBounds_toArray, List.set_cons_succ, List.set_cons_zero]
      refine sC (by kernel_rfl) (by kernel_rfl) (HN.out _ _ HB1.out) ?_
      rintro u2 hb2
      simp only [Act.put, List.setIfInBounds_toArray, List.set_cons_succ, List.set_cons_zero]
      refine sV (.agg #[.int .u8 (kl.getD 0 0), .int .u8 (kl.getD 1 0), .int .u8 (kl.getD 2 0), .int .u8 (kl.getD 3 0), .int .i64 pn]) (u2) (by kernel_rfl) (by kernel_rfl) ?_
      simp only [Act.put, List.setIfInBounds_toArray, List.set_cons_succ, List.set_cons_zero]
      refine sV (.pointer (some ⟨X, 0 + k * 5, none⟩)) u2 (by kernel_rfl) (op5 _ _ _ _ X 0 m m k rfl (by kernel_rfl) (by kernel_rfl) hlt u2) ?_
      simp only [Act.put, List.setIfInBounds_toArray, List.set_cons_succ, List.set_cons_zero]
      rw [Nat.zero_add]
      have hlen : (cellsL ((itS bs s0 k).1 ++ List.replicate (q + 1) z0)).length = (k + (q + 1)) * 5 := by rw [cellsL_len, List.length_append, List.length_replicate, HLN.out]
      refine wpList_store_mid (by rfl) _ _ _ (by rfl) X (k * 5) #[.int .u8 (kl.getD 0 0), .int .u8 (kl.getD 1 0), .int .u8 (kl.getD 2 0), .int .u8 (kl.getD 3 0), .int .i64 pn] (by kernel_rfl) (by kernel_rfl) (there5 hb2.swap.head (k * 5) 5 (by rw [hlen]; omega)) (by kernel_rfl) (by kernel_rfl) ?_
      have HB3 := WirS.hide (bag_sets hb2.swap (k * 5) (mkV kl pn).cells (by rw [hlen, cells_len]; omega))
      have hput := cellsL_put (itS bs s0 k).1 (mkV kl pn) q
      rw [HLN.out] at hput
      rw [hput] at HB3
      obtain ⟨u3, eu3⟩ : ∃ Y, Y = u2.setCells X (k * 5) (mkV kl pn).cells := ⟨_, rfl⟩
      rw [← eu3] at HB3
      change wpList _ _ _ _ _ (u2.setCells X (k * 5) (mkV kl pn).cells)
      rw [← eu3]
      clear hb2 hlen hput eu3 HB1 HK HN
      go_wp2_with fail
      go_roundw
      case rel =>
        refine ⟨k + 1, by omega, by go_num, ?_⟩
        have := HQ.out
        rw [HIT.out, show m - (k + 1) = q by omega]
        exact HB3.out.swap
      case measure => simp [intOf]; omega
    · obtain rfl : k = m := by omega
      rw [Nat.sub_self, List.replicate_zero, List.append_nil] at hB
      obtain ⟨ls, els⟩ : ∃ y, (itS bs s0 k).1 = y := ⟨_, rfl⟩
      obtain ⟨s1, es1⟩ : ∃ y, (itS bs s0 k).2 = y := ⟨_, rfl⟩
      have hll : ls.length = k := by rw [← els]; exact itS_len bs s0 k
      have hok : ∀ x ∈ ls, x.ok := by rw [← els]; exact itS_ok HR.out s0 k
      rw [els, es1] at hB HD2
      obtain ⟨fe, efe⟩ : ∃ y, (endS bs s1).1 = y := ⟨_, rfl⟩
      obtain ⟨fa, efa⟩ : ∃ y, (endS bs s1).2 = y := ⟨_, rfl⟩
      have hend := s_end hB
      rw [efe, efa] at hend
      rw [efe, show endS bs s1 = (fe, fa) by rw [← efe, ← efa]] at HD2
      have HE := WirS.hide hend
      have HLL := WirS.hide hll
      have HOK := WirS.hide hok
      clear hB hend hll hok els es1 efe efa
      go_upto_region 12 with ((go_at_call 42; refine (HE.out).mono ?_; rintro e u1 ⟨rfl, hb⟩; have HB1 := WirS.hide hb; clear hb HE))
      obtain ⟨F, eF⟩ : ∃ F, F = u1.heap.size := ⟨_, rfl⟩
      obtain ⟨w5, e5⟩ : ∃ Y, Y = u1.alloc (.cells #[.int .i64 fe, .int .i64 fa] 49) := ⟨_, rfl⟩
      have hb5 := bag_box (T := 49) (cs := [.int .i64 fe, .int .i64 fa]) HB1.out eF (w' := w5) (by rw [e5, eF]; exact At.new u1 _ _) (by rw [e5]; exact Below.alloc (Below.refl _ _) (Nat.le_refl _) _)
      rw [← e5, ← eF]
      have hFS : S ≠ F := by have := At.lt HB1.out.drop.swap.head; omega
      clear eF e5 HB1
      have hSA := hb5.drop.drop.drop.head
      have hFA := hb5.head
      have c0 : w5.cell? ⟨S, 0, none⟩ = some (.int .i64 0) := At.cell hSA 0
      have c1 : w5.cell? ⟨S, 1, none⟩ = some (.int .i64 0) := At.cell hSA 1
      have f0 : w5.frozen? ⟨S, 0, none⟩ = false := At.frozen hSA 0
      have f1 : w5.frozen? ⟨S, 1, none⟩ = false := At.frozen hSA 1
      have d0 : w5.cell? ⟨F, 0, none⟩ = some (.int .i64 fe) := At.cell hFA 0
      have d1 : w5.cell? ⟨F, 1, none⟩ = some (.int .i64 fa) := At.cell hFA 1
      have HB5 := WirS.hide hb5
      clear hb5 hSA hFA
      by_cases hfe : fe = 0
      · subst hfe
        have hown := own_at (At.below (B := w5.heap.size) HB5.out.drop.drop.head (Below.refl _ _) (At.lt HB5.out.drop.drop.head)) HLL.out (by omega) HOK.out
        have HCk := WirS.hide (check_any w5 _ k k ls hown.vin)
        have HOwn := WirS.hide hown
        rw [if_neg (by simp)] at HD2
        clear hown
        by_cases hck : chk ls = 0
        · rw [if_neg (by rw [hck]; simp)] at HD2
          rw [hck] at HCk
          go_upto_region 17 with ((go_at_call 15; refine (HCk.out).mono ?_; rintro e u6 ⟨rfl, hb⟩; have HB6 := WirS.hide hb; clear hb))
          have hSA := HB5.out.drop.drop.drop.head
          have hS6 := At.below hSA HB6.out (At.lt hSA)
          have g0 : u6.cell? ⟨S, 0, none⟩ = some (.int .i64 0) := At.cell hS6 0
          have g1 : u6.cell? ⟨S, 1, none⟩ = some (.int .i64 0) := At.cell hS6 1
          have k0 : u6.frozen? ⟨S, 0, none⟩ = false := At.frozen hS6 0
          have k1 : u6.frozen? ⟨S, 1, none⟩ = false := At.frozen hS6 1
          have hSX : S ≠ X := by
            have := List.pairwise_cons.1 (HB5.out.drop.drop.apart)
            exact fun e => this.1 (box 49 S [.int .i64 0, .int .i64 0]) (by simp) X rfl (by exact e.symm)
          have HXw := WirS.hide ((HB5.out.all (box 55 X (cellsL ls)) (by simp)).2 X rfl)
          clear hSA hS6 c0 c1 f0 f1 d0 d1
          go_wp2_with fail
          refine bodyPost_ret (v := .tuple #[.slice (some ⟨X, 0, none⟩) k k, .agg #[.int .i64 0, .int .i64 0]]) (by simp [results, Tryz.results20, go_sem, g0, g1]) rfl ⟨_, _, _, by rw [HD2.out], ?_, ?_, ?_⟩
          · rw [HD2.out]
            exact (HOwn.out.below HB6.out).fr (X := fun q => q = S) (((Fr.refl (fun q => q = S) u6).setCell S 0 _ (fun _ => rfl)).setCell S 1 _ (fun _ => rfl)) (fun q hq hx => by simp [Value.ownBlock] at hq; omega)
          · intro q hq
            simp [Value.ownBlock] at hq
            have := HXw.out
            omega
          · exact ((HB5.out.low.trans (HB6.out.mono HB5.out.low.size)).setCell (by rw [← HSN.out]; exact Nat.le_refl _) _).setCell (by rw [← HSN.out]; exact Nat.le_refl _) _
        · obtain ⟨cd, hcd⟩ : ∃ cd, chk ls = cd := ⟨_, rfl⟩
          rw [if_pos (by simpa using hck), hcd] at HD2
          rw [hcd] at HCk hck
          have hn0 : (cd == 0) = false := by simpa using hck
          have hn1 : (cd != 0) = true := by simpa using hck
          clear hcd hck
          go_upto_region 16 with ((go_at_call 15; refine (HCk.out).mono ?_; rintro e u6 ⟨rfl, hb⟩; have HB6 := WirS.hide hb; clear hb))
          have hSA := HB5.out.drop.drop.drop.head
          have hS6 := At.below hSA HB6.out (At.lt hSA)
          have g0 : u6.cell? ⟨S, 0, none⟩ = some (.int .i64 0) := At.cell hS6 0
          have g1 : u6.cell? ⟨S, 1, none⟩ = some (.int .i64 0) := At.cell hS6 1
          have k0 : u6.frozen? ⟨S, 0, none⟩ = false := At.frozen hS6 0
          have k1 : u6.frozen? ⟨S, 1, none⟩ = false := At.frozen hS6 1
          clear hSA hS6 c0 c1 f0 f1 d0 d1
          go_wp2_with fail
          refine bodyPost_ret (v := .tuple #[.slice none 0 0, .agg #[.int .i64 cd, .int .i64 0]]) (by simp [results, Tryz.results20, go_sem, g0, g1]) rfl ⟨_, _, _, by rw [HD2.out], by rw [HD2.out]; exact OwnV.nil _, fun q hq => by simp [Value.ownBlock] at hq, ?_⟩
          exact ((HB5.out.low.trans (HB6.out.mono HB5.out.low.size)).setCell (by rw [← HSN.out]; exact Nat.le_refl _) _).setCell (by rw [← HSN.out]; exact Nat.le_refl _) _
      · rw [if_pos (by simpa using hfe)] at HD2
        have hn0 : (fe == 0) = false := by simpa using hfe
        have hn1 : (fe != 0) = true := by simpa using hfe
        clear hfe
        go_upto_region 13 with fail
        go_region
        go_wp2_with fail
        refine bodyPost_ret (v := .tuple #[.slice none 0 0, .agg #[.int .i64 fe, .int .i64 fa]]) (by simp [results, Tryz.results20, go_sem, c0, c1]) rfl ⟨_, _, _, by rw [HD2.out], by rw [HD2.out]; exact OwnV.nil _, fun q hq => by simp [Value.ownBlock] at hq, ?_⟩
        exact ((HB5.out.low.setCell (by rw [← HSN.out]; exact Nat.le_refl _) _).setCell (by rw [← HSN.out]; exact Nat.le_refl _) _).drew
end ValL
end Go.Proofs.YtpambhlhkmkagaaGreatDoor

namespace Go.Proofs.YtpambhlhkmkagaaGreatDoor
namespace ValH
open Go.RowKit
open BlkM WirM WirS WirA WirB ValA ValB ValC ValD ValE

/-- Where the first one with this key stands, from i on; else -1. -/
def ixK (kk : List Int) : List Vd → Nat → Int
  | [], _ => -1
  | x :: l, i => if x.key = kk then (i : Int) else ixK kk l (i + 1)
def kcl (k : Vd) : List Value := [.int .u8 k.a, .int .u8 k.b, .int .u8 k.c, .int .u8 k.d]
theorem eqK4 (x k : Vd) (W : World) : (binOp .eql 24 (.agg #[.int .u8 x.a, .int .u8 x.b, .int .u8 x.c, .int .u8 x.d]) (.agg #[.int .u8 k.a, .int .u8 k.b, .int .u8 k.c, .int .u8 k.d])).run Tryz.prog W = .ok (.bool (decide (x.key = k.key))) W := WirBE.eqKg x.key k.key rfl rfl W
set_option maxRecDepth 10000 in
theorem is_any (w : World) (X : Nat) (v k : Vd) (h : At w X 24 (kcl k)) :
    Calls Tryz.prog 25 #[.agg #[.int .u8 v.a, .int .u8 v.b, .int .u8 v.c, .int .u8 v.d, .int .i64 v.p], .pointer (some ⟨X, 0, none⟩)] w fun e w' => e = .returned (.bool (decide (v.key = k.key))) ∧ Below w.heap.size w w' := by
  have hlt := h.lt
  have c0 : w.cell? ⟨X, 0, none⟩ = some (.int .u8 k.a) := h.cell 0
  have c1 : w.cell? ⟨X, 1, none⟩ = some (.int .u8 k.b) := h.cell 1
  have c2 : w.cell? ⟨X, 2, none⟩ = some (.int .u8 k.c) := h.cell 2
  have c3 : w.cell? ⟨X, 3, none⟩ = some (.int .u8 k.d) := h.cell 3
  have hq := eqK4 v k
  generalize decide (v.key = k.key) = r at *
  clear h
  go_enter Tryz.func25, Tryz.ntmps25
  go_wp2_with fail
  go_ret
  exact ⟨rfl, Below.alloc (Below.refl _ _) (Nat.le_refl _) _⟩
def MidI (w : World) (vs : List Vd) (kk : List Int) (n : Nat) (i : Value) (U : World) : Prop :=
  ∃ k : Nat, k ≤ n ∧ i = .int .i64 (k : Int) ∧ ixK kk vs 0 = ixK kk (vs.drop k) k ∧ Below w.heap.size w U
set_option maxRecDepth 10000 in
set_option maxHeartbeats 2000000 in
theorem index_any (w : World) (a : Option Addr) (n c X : Nat) (vs : List Vd) (kv : Vd) (h : VIn w a n c vs) (hX : At w X 24 (kcl kv)) :
    Calls Tryz.prog 24 #[.slice a n c, .func (.func 25) #[] #[.pointer (some ⟨X, 0, none⟩)]] w fun e w' => e = .returned (.int .i64 (ixK kv.key vs 0)) ∧ Below w.heap.size w w' := by
  have hns : n ≤ 9223372036854775807 := Nat.le_trans h.cap h.small
  have HL := WirS.hide h.len
  have H := WirS.hide h
  have HX := WirS.hide hX
  clear h hX
  go_enter Tryz.func24, Tryz.ntmps24
  go_wp2_with fail
  go_loopw [8] (fun i wr => MidI w vs kv.key n i wr) (fun i _ => n - (intOf i).toNat)
  case atStart => exact ⟨0, Nat.zero_le _, rfl, rfl, Below.refl _ _⟩
  case round =>
    obtain ⟨k, hk, rfl, hE, hB⟩ := hrel
    by_cases hlt : k < n
    · obtain ⟨x, B, o, hx, hmem, rfl, hBl, hr⟩ := (H.out.below hB).cell hlt
      have r0 : wr.cell? ⟨B, o + k * 5, none⟩ = some (.int .u8 x.a) := hr 0 _ rfl
      have r1 : wr.cell? ⟨B, o + k * 5 + 1, none⟩ = some (.int .u8 x.b) := hr 1 _ rfl
      have r2 : wr.cell? ⟨B, o + k * 5 + 2, none⟩ = some (.int .u8 x.c) := hr 2 _ rfl
      have r3 : wr.cell? ⟨B, o + k * 5 + 3, none⟩ = some (.int .u8 x.d) := hr 3 _ rfl
      have r4 : wr.cell? ⟨B, o + k * 5 + 4, none⟩ = some (.int .i64 x.p) := hr 4 _ rfl
      have hkl : (k : Int) < (n : Int) := by omega
      have HC := WirS.hide (is_any wr X x kv (HX.out.below hB HX.out.lt))
      rw [drop_get hx, ixK] at hE
      have HB := WirS.hide hB
      clear hr hx hB hmem
      by_cases hkk : x.key = kv.key
      · rw [if_pos hkk] at hE
        rw [decide_eq_true hkk] at HC
        have HE := WirS.hide hE
        clear hE hkk
        go_wp2_with (first | (go_at_call 25; refine (HC.out).mono ?_; rintro e u ⟨rfl, hb⟩; have HU := WirS.hide hb; clear hb))
        go_ret
        exact ⟨by rw [HE.out]; rfl, HB.out.trans (HU.out.mono HB.out.size)⟩
      · rw [if_neg hkk] at hE
        rw [decide_eq_false hkk] at HC
        have HE := WirS.hide hE
        clear hE hkk
        go_wp2_with (first | (go_at_call 25; refine (HC.out).mono ?_; rintro e u ⟨rfl, hb⟩; have HU := WirS.hide hb; clear hb))
        go_roundw
        case rel => exact ⟨k + 1, by omega, by go_num, HE.out, HB.out.trans (HU.out.mono HB.out.size)⟩
        case measure => simp [intOf]; omega
    · have hd : vs.drop k = [] := List.drop_eq_nil_of_le (by rw [HL.out]; omega)
      rw [hd, ixK] at hE
      have HE := WirS.hide hE
      have HB := WirS.hide hB
      clear hE hB hd
      go_wp2_with fail
      go_ret
      exact ⟨by rw [HE.out]; rfl, HB.out⟩
set_option maxRecDepth 10000 in
set_option maxHeartbeats 2000000 in
theorem find_any (w : World) (a : Option Addr) (n c : Nat) (vs : List Vd) (kv : Vd) (h : VIn w a n c vs) :
    Calls Tryz.prog 8 #[.slice a n c, .agg #[.int .u8 kv.a, .int .u8 kv.b, .int .u8 kv.c, .int .u8 kv.d]] w fun e w' => e = .returned (.tuple #[.int .i64 (if 0 ≤ ixK kv.key vs 0 then ixK kv.key vs 0 else 0), .bool (decide (0 ≤ ixK kv.key vs 0))]) ∧ Below w.heap.size w w' := by
  obtain ⟨W0, e0⟩ : ∃ X, X = w.alloc (.cells #[.int .u8 kv.a, .int .u8 kv.b, .int .u8 kv.c, .int .u8 kv.d] 24) := ⟨_, rfl⟩
  have hA : At W0 w.heap.size 24 (kcl kv) := by rw [e0]; exact At.new w _ _
  have hB : Below w.heap.size w W0 := by rw [e0]; exact Below.alloc (Below.refl _ _) (Nat.le_refl _) _
  have HC := WirS.hide (index_any W0 a n c w.heap.size vs kv (h.below hB) hA)
  have HB := WirS.hide hB
  have E0 := WirS.hide e0
  generalize ixK kv.key vs 0 = r at *
  clear h e0 hA hB
  by_cases hr : 0 ≤ r
  · rw [if_pos hr, decide_eq_true hr]
    go_enter Tryz.func8, Tryz.ntmps8
    go_upto_region 1 with fail
    rw [← E0.out]
    go_wp2_with (first | (go_at_call 24; refine (HC.out).mono ?_; rintro e u ⟨rfl, hb⟩; have HU := WirS.hide hb; clear hb))
    exact bodyPost_ret (v := .tuple #[.int .i64 r, .bool true]) (by simp [results, Tryz.results8, go_sem]; omega) rfl ⟨rfl, HB.out.trans (HU.out.mono HB.out.size)⟩
  · rw [if_neg hr, decide_eq_false hr]
    go_enter Tryz.func8, Tryz.ntmps8
    go_upto_region 1 with fail
    rw [← E0.out]
    go_wp2_with (first | (go_at_call 24; refine (HC.out).mono ?_; rintro e u ⟨rfl, hb⟩; have HU := WirS.hide hb; clear hb))
    exact bodyPost_ret (v := .tuple #[.int .i64 0, .bool false]) (by simp [results, Tryz.results8, go_sem]; omega) rfl ⟨rfl, HB.out.trans (HU.out.mono HB.out.size)⟩
set_option maxRecDepth 10000 in
theorem has_any (w : World) (a : Option Addr) (n c : Nat) (vs : List Vd) (kv : Vd) (h : VIn w a n c vs) :
    Calls Tryz.prog 92 #[.slice a n c, .agg #[.int .u8 kv.a, .int .u8 kv.b, .int .u8 kv.c, .int .u8 kv.d]] w fun e w' => e = .returned (.bool (decide (0 ≤ ixK kv.key vs 0))) ∧ Below w.heap.size w w' := by
  obtain ⟨W0, e0⟩ : ∃ X, X = w.alloc (.cells #[.int .u8 kv.a, .int .u8 kv.b, .int .u8 kv.c, .int .u8 kv.d] 24) := ⟨_, rfl⟩
  have hA : At W0 w.heap.size 24 (kcl kv) := by rw [e0]; exact At.new w _ _
  have hB : Below w.heap.size w W0 := by rw [e0]; exact Below.alloc (Below.refl _ _) (Nat.le_refl _) _
  have c0 : W0.cell? ⟨w.heap.size, 0, none⟩ = some (.int .u8 kv.a) := hA.cell 0
  have c1 : W0.cell? ⟨w.heap.size, 1, none⟩ = some (.int .u8 kv.b) := hA.cell 1
  have c2 : W0.cell? ⟨w.heap.size, 2, none⟩ = some (.int .u8 kv.c) := hA.cell 2
  have c3 : W0.cell? ⟨w.heap.size, 3, none⟩ = some (.int .u8 kv.d) := hA.cell 3
  have HC := WirS.hide (find_any W0 a n c vs kv (h.below hB))
  have HB := WirS.hide hB
  have E0 := WirS.hide e0
  generalize (if 0 ≤ ixK kv.key vs 0 then ixK kv.key vs 0 else 0) = r at *
  generalize decide (0 ≤ ixK kv.key vs 0) = s at *
  clear h e0 hA hB
  go_enter Tryz.func92, Tryz.ntmps92
  go_upto_region 1 with fail
  rw [← E0.out]
  go_wp2_with (first | (go_at_call 8; refine (HC.out).mono ?_; rintro e u ⟨rfl, hb⟩; have HU := WirS.hide hb; clear hb))
  go_ret
  exact ⟨rfl, HB.out.trans (HU.out.mono HB.out.size)⟩
set_option maxRecDepth 10000 in
theorem removes_any (w : World) (v : Vd) : Calls Tryz.prog 73 #[.agg #[.int .u8 v.a, .int .u8 v.b, .int .u8 v.c, .int .u8 v.d, .int .i64 v.p]] w fun e w' => e = .returned (.bool (v.p == 0)) ∧ Below w.heap.size w w' := by
  go_enter Tryz.func73, Tryz.ntmps73
  go_wp2_with fail
  go_ret
  exact ⟨rfl, Below.alloc (Below.refl _ _) (Nat.le_refl _) _⟩
end ValH
end Go.Proofs.YtpambhlhkmkagaaGreatDoor

namespace Go.Proofs.YtpambhlhkmkagaaGreatDoor
namespace ValM
open Go.RowKit
open BlkM WirM WirS WirA WirB ValA ValB ValC ValD ValE ValH ValP

/-- What is wrong first with changes of vs. -/
def chgE (vs : List Vd) : Option Vd → List Vd → Int
  | _, [] => 0
  | q, x :: cs => if nextE 0 q x ≠ 0 then nextE 0 q x else if x.p = 0 ∧ ¬ 0 ≤ ixK x.key vs 0 then 10 else chgE vs (some x) cs
def MidG (w : World) (vs ch : List Vd) (n : Nat) (i : Value) (U : World) : Prop :=
  ∃ (k : Nat) (q : Option Vd), k ≤ n ∧ i = .int .i64 (k : Int) ∧ At U w.heap.size 70 (rcl 0 q) ∧ (∀ x, q = some x → x ∈ ch) ∧ chgE vs none ch = chgE vs q (ch.drop k) ∧ Below w.heap.size w U
set_option maxRecDepth 10000 in
set_option maxHeartbeats 4000000 in
theorem checkChanges_any (w : World) (a a2 : Option Addr) (n c n2 c2 : Nat) (vs ch : List Vd) (h : VIn w a n c vs) (h2 : VIn w a2 n2 c2 ch) (hn2 : n2 ≤ 1000000) :
    Calls Tryz.prog 71 #[.slice a n c, .slice a2 n2 c2] w fun e w' => e = .returned (.int .i64 (chgE vs none ch)) ∧ Below w.heap.size w w' := by
  have HV := WirS.hide h
  have H := WirS.hide h2
  have HL := WirS.hide h2.len
  have hst : MidG w vs ch n2 (.int .i64 0) (w.alloc (.cells #[.int .i64 0, .bool false, .int .u8 0, .int .u8 0, .int .u8 0, .int .u8 0] 70)) :=
    ⟨0, none, by omega, rfl, At.new w _ (rcl 0 none), (fun x hx => absurd hx (by simp)), rfl, Below.alloc (Below.refl _ _) (Nat.le_refl _) _⟩
  have HST := WirS.hide hst
  clear h h2 hst
  go_enter Tryz.func71, Tryz.ntmps71
  go_wp2_with fail
  go_loopw [12] (fun i wr => MidG w vs ch n2 i wr) (fun i _ => n2 - (intOf i).toNat)
  case atStart => exact HST.out
  case round =>
    clear HST
    obtain ⟨k, q, hk, rfl, hR, hq, hE, hB⟩ := hrel
    by_cases hlt : k < n2
    · obtain ⟨x, B, o, hx, hmem, rfl, hBl, hr⟩ := (H.out.below hB).cell hlt
      have r0 : wr.cell? ⟨B, o + k * 5, none⟩ = some (.int .u8 x.a) := hr 0 _ rfl
      have r1 : wr.cell? ⟨B, o + k * 5 + 1, none⟩ = some (.int .u8 x.b) := hr 1 _ rfl
      have r2 : wr.cell? ⟨B, o + k * 5 + 2, none⟩ = some (.int .u8 x.c) := hr 2 _ rfl
      have r3 : wr.cell? ⟨B, o + k * 5 + 3, none⟩ = some (.int .u8 x.d) := hr 3 _ rfl
      have r4 : wr.cell? ⟨B, o + k * 5 + 4, none⟩ = some (.int .i64 x.p) := hr 4 _ rfl
      have hkl : (k : Int) < (n2 : Int) := by omega
      have HX := WirS.hide hx
      have HE := WirS.hide hE
      have HB2 := WirS.hide (show Below w.heap.size w (wr.alloc (.cells #[.int .u8 x.a, .int .u8 x.b, .int .u8 x.c, .int .u8 x.d, .int .i64 x.p] 55)) from hB.alloc hB.size _)
      have hR2 : At (wr.alloc (.cells #[.int .u8 x.a, .int .u8 x.b, .int .u8 x.c, .int .u8 x.d, .int .i64 x.p] 55)) w.heap.size 70 (rcl 0 q) := hR.alloc _
      have HXA := WirS.hide (show At (wr.alloc (.cells #[.int .u8 x.a, .int .u8 x.b, .int .u8 x.c, .int .u8 x.d, .int .i64 x.p] 55)) wr.heap.size 55 x.cells from At.new wr _ _)
      have hXR : wr.heap.size ≠ w.heap.size := by have := hR.lt; omega
      have hqo : ∀ y, q = some y → y.ok := fun y hy => H.out.ok y (hq y hy)
      have hxo := H.out.ok x hmem
      have HM := WirS.hide hmem
      have HXR := WirS.hide hXR
      rw [drop_get HX.out, chgE] at HE
      by_cases hne : nextE 0 q x = 0
      · have HN := WirS.hide (next_ok _ _ 0 q x hqo hxo hR2 hne)
        rw [if_neg (by simpa using hne)] at HE
        clear hr hx hE hB hq hmem hqo hxo hR2 hne hR HX hXR
        by_cases hp : x.p = 0
        · have HRm := WirS.hide (fun U => show Calls Tryz.prog 73 #[.agg #[.int .u8 x.a, .int .u8 x.b, .int .u8 x.c, .int .u8 x.d, .int .i64 x.p]] U (fun e w' => e = .returned (.bool true) ∧ Below U.heap.size U w') from by
            have := removes_any U x
            rw [show (x.p == 0) = true by simpa using hp] at this
            exact this)
          have HHs := WirS.hide (fun U (hU : Below w.heap.size w U) => has_any U a n c vs x (HV.out.below hU))
          by_cases hi : 0 ≤ ixK x.key vs 0
          · rw [if_neg (by simp [hi])] at HE
            rw [decide_eq_true hi] at HHs
            clear hp hi
            go_wp2_with (first | (go_at_call 36; refine (HN.out).mono ?_; rintro e u ⟨rfl, hA, hF⟩; have HA := WirS.hide hA; have hxu := At.fr HXA.out hF HXR.out; have d0 : u.cell? ⟨wr.heap.size, 0, none⟩ = some (.int .u8 x.a) := hxu.cell 0; have d1 : u.cell? ⟨wr.heap.size, 1, none⟩ = some (.int .u8 x.b) := hxu.cell 1; have d2 : u.cell? ⟨wr.heap.size, 2, none⟩ = some (.int .u8 x.c) := hxu.cell 2; have d3 : u.cell? ⟨wr.heap.size, 3, none⟩ = some (.int .u8 x.d) := hxu.cell 3; have d4 : u.cell? ⟨wr.heap.size, 4, none⟩ = some (.int .i64 x.p) := hxu.cell 4; have HXU := WirS.hide hxu; have HU := WirS.hide (HB2.out.trans (hF.below HB2.out.size (fun k hk hx => by omega))); clear hA hF hxu) | (go_at_call 73; refine (HRm.out _).mono ?_; rintro e u2 ⟨rfl, hb⟩; have hx2 := HXU.out.below hb HXU.out.lt; have d0 : u2.cell? ⟨wr.heap.size, 0, none⟩ = some (.int .u8 x.a) := hx2.cell 0; have d1 : u2.cell? ⟨wr.heap.size, 1, none⟩ = some (.int .u8 x.b) := hx2.cell 1; have d2 : u2.cell? ⟨wr.heap.size, 2, none⟩ = some (.int .u8 x.c) := hx2.cell 2; have d3 : u2.cell? ⟨wr.heap.size, 3, none⟩ = some (.int .u8 x.d) := hx2.cell 3; have HA2 := WirS.hide (HA.out.below hb HA.out.lt); have HU2 := WirS.hide (HU.out.trans (hb.mono HU.out.size)); clear hb hx2) | (go_at_call 92; refine (HHs.out _ HU2.out).mono ?_; rintro e u3 ⟨rfl, hb⟩; have HA3 := WirS.hide (HA2.out.below hb HA2.out.lt); have HU3 := WirS.hide (HU2.out.trans (hb.mono HU2.out.size)); clear hb))
            go_roundw
            case rel => exact ⟨k + 1, some x, by omega, by go_num, HA3.out, fun y hy => by cases hy; exact HM.out, HE.out, HU3.out⟩
            case measure => simp [intOf]; omega
          · rw [if_pos ⟨hp, hi⟩] at HE
            rw [decide_eq_false hi] at HHs
            clear hp hi
            go_wp2_with (first | (go_at_call 36; refine (HN.out).mono ?_; rintro e u ⟨rfl, hA, hF⟩; have HA := WirS.hide hA; have hxu := At.fr HXA.out hF HXR.out; have d0 : u.cell? ⟨wr.heap.size, 0, none⟩ = some (.int .u8 x.a) := hxu.cell 0; have d1 : u.cell? ⟨wr.heap.size, 1, none⟩ = some (.int .u8 x.b) := hxu.cell 1; have d2 : u.cell? ⟨wr.heap.size, 2, none⟩ = some (.int .u8 x.c) := hxu.cell 2; have d3 : u.cell? ⟨wr.heap.size, 3, none⟩ = some (.int .u8 x.d) := hxu.cell 3; have d4 : u.cell? ⟨wr.heap.size, 4, none⟩ = some (.int .i64 x.p) := hxu.cell 4; have HXU := WirS.hide hxu; have HU := WirS.hide (HB2.out.trans (hF.below HB2.out.size (fun k hk hx => by omega))); clear hA hF hxu) | (go_at_call 73; refine (HRm.out _).mono ?_; rintro e u2 ⟨rfl, hb⟩; have hx2 := HXU.out.below hb HXU.out.lt; have d0 : u2.cell? ⟨wr.heap.size, 0, none⟩ = some (.int .u8 x.a) := hx2.cell 0; have d1 : u2.cell? ⟨wr.heap.size, 1, none⟩ = some (.int .u8 x.b) := hx2.cell 1; have d2 : u2.cell? ⟨wr.heap.size, 2, none⟩ = some (.int .u8 x.c) := hx2.cell 2; have d3 : u2.cell? ⟨wr.heap.size, 3, none⟩ = some (.int .u8 x.d) := hx2.cell 3; have HU2 := WirS.hide (HU.out.trans (hb.mono HU.out.size)); clear hb hx2) | (go_at_call 92; refine (HHs.out _ HU2.out).mono ?_; rintro e u3 ⟨rfl, hb⟩; have HU3 := WirS.hide (HU2.out.trans (hb.mono HU2.out.size)); clear hb))
            go_ret
            exact ⟨(by rw [HE.out]; rfl), HU3.out⟩
        · have HRm := WirS.hide (fun U => show Calls Tryz.prog 73 #[.agg #[.int .u8 x.a, .int .u8 x.b, .int .u8 x.c, .int .u8 x.d, .int .i64 x.p]] U (fun e w' => e = .returned (.bool false) ∧ Below U.heap.size U w') from by
            have := removes_any U x
            rw [show (x.p == 0) = false by simpa using hp] at this
            exact this)
          rw [if_neg (fun h => hp h.1)] at HE
          clear hp
          go_wp2_with (first | (go_at_call 36; refine (HN.out).mono ?_; rintro e u ⟨rfl, hA, hF⟩; have HA := WirS.hide hA; have hxu := At.fr HXA.out hF HXR.out; have d0 : u.cell? ⟨wr.heap.size, 0, none⟩ = some (.int .u8 x.a) := hxu.cell 0; have d1 : u.cell? ⟨wr.heap.size, 1, none⟩ = some (.int .u8 x.b) := hxu.cell 1; have d2 : u.cell? ⟨wr.heap.size, 2, none⟩ = some (.int .u8 x.c) := hxu.cell 2; have d3 : u.cell? ⟨wr.heap.size, 3, none⟩ = some (.int .u8 x.d) := hxu.cell 3; have d4 : u.cell? ⟨wr.heap.size, 4, none⟩ = some (.int .i64 x.p) := hxu.cell 4; have HU := WirS.hide (HB2.out.trans (hF.below HB2.out.size (fun k hk hx => by omega))); clear hA hF hxu) | (go_at_call 73; refine (HRm.out _).mono ?_; rintro e u2 ⟨rfl, hb⟩; have HA2 := WirS.hide (HA.out.below hb HA.out.lt); have HU2 := WirS.hide (HU.out.trans (hb.mono HU.out.size)); clear hb))
          go_roundw
          case rel => exact ⟨k + 1, some x, by omega, by go_num, HA2.out, fun y hy => by cases hy; exact HM.out, HE.out, HU2.out⟩
          case measure => simp [intOf]; omega
      · obtain ⟨cd, hcd⟩ : ∃ cd, nextE 0 q x = cd := ⟨_, rfl⟩
        have HN := WirS.hide (next_no _ _ 0 q x hqo hxo hR2 cd hcd)
        rw [if_pos (by simpa using hne), hcd] at HE
        rw [hcd] at hne
        have hn0 : (cd == 0) = false := by simpa using hne
        have hn1 : (cd != 0) = true := by simpa using hne
        clear hr hx hE hB hq hmem hqo hxo hR2 hne hR HX hcd hXR
        go_wp2_with (first | (go_at_call 36; refine (HN.out).mono ?_; rintro e u ⟨rfl, hF⟩; have HU := WirS.hide (hF.below HB2.out.size (fun k hk hx => by omega)); clear hF))
        go_ret
        exact ⟨(by rw [HE.out]; rfl), HB2.out.trans HU.out⟩
    · have hd : ch.drop k = [] := List.drop_eq_nil_of_le (by rw [HL.out]; omega)
      rw [hd, chgE] at hE
      have HE := WirS.hide hE
      have HB := WirS.hide hB
      clear hE hB hR hq hd
      go_wp2_with fail
      go_ret
      exact ⟨(by rw [HE.out]; rfl), HB.out⟩
end ValM
end Go.Proofs.YtpambhlhkmkagaaGreatDoor

namespace Go.Proofs.YtpambhlhkmkagaaGreatDoor
namespace ValN
open Go.RowKit
open BlkM WirM WirS WirA WirB ValA ValB ValC ValD ValE ValH ValP ValM

/-- Both lists merged, with all keys ascending; where both have a key, the second one's. -/
def mrg : List Vd → List Vd → List Vd
  | [], cs => cs
  | os, [] => os
  | o :: os, c :: cs => if o.rk < c.rk then o :: mrg os (c :: cs) else if o.rk = c.rk then c :: mrg os cs else c :: mrg (o :: os) cs
termination_by a b => a.length + b.length
theorem mrg_nil_left (cs : List Vd) : mrg [] cs = cs := by simp [mrg]
theorem mrg_nil_right (os : List Vd) : mrg os [] = os := by cases os <;> simp [mrg]
theorem mrg_lt {o c : Vd} (os cs : List Vd) (h : o.rk < c.rk) : mrg (o :: os) (c :: cs) = o :: mrg os (c :: cs) := by rw [mrg, if_pos h]
theorem mrg_eq {o c : Vd} (os cs : List Vd) (h : o.rk = c.rk) : mrg (o :: os) (c :: cs) = c :: mrg os cs := by rw [mrg, if_neg (by omega), if_pos h]
theorem mrg_gt {o c : Vd} (os cs : List Vd) (h : c.rk < o.rk) : mrg (o :: os) (c :: cs) = c :: mrg (o :: os) cs := by rw [mrg, if_neg (by omega), if_neg (by omega)]
theorem mrg_mem (os cs : List Vd) : ∀ x ∈ mrg os cs, x ∈ os ∨ x ∈ cs := by
  induction os, cs using mrg.induct with
  | case1 cs => intro x hx; rw [mrg_nil_left] at hx; exact .inr hx
  | case2 os h => intro x hx; rw [mrg_nil_right] at hx; exact .inl hx
  | case3 o os c cs h ih =>
    intro x hx
    rw [mrg_lt os cs h] at hx
    rcases List.mem_cons.1 hx with rfl | hx
    · exact .inl (by simp)
    · rcases ih x hx with h | h
      · exact .inl (by simp [h])
      · exact .inr h
  | case4 o os c cs h h2 ih =>
    intro x hx
    rw [mrg_eq os cs h2] at hx
    rcases List.mem_cons.1 hx with rfl | hx
    · exact .inr (by simp)
    · rcases ih x hx with h | h
      · exact .inl (by simp [h])
      · exact .inr (by simp [h])
  | case5 o os c cs h h2 ih =>
    intro x hx
    rw [mrg_gt os cs (by omega)] at hx
    rcases List.mem_cons.1 hx with rfl | hx
    · exact .inr (by simp)
    · rcases ih x hx with h | h
      · exact .inl h
      · exact .inr (by simp [h])
/-- Without the first one. -/
theorem cut_one {w : World} {B o n c : Nat} {x : Vd} {vs : List Vd} (h : VIn w (some ⟨B, o, none⟩) (n + 1) c (x :: vs)) :
    ∃ a2 c2, (∀ W : World, (Instr.sliceAt 22 (.slice (some ⟨B, o, none⟩) (n + 1) c) (some (.int .i64 1)) none none).run Tryz.prog W = .ok (.slice a2 n c2) W) ∧ VIn w a2 n c2 vs := by
  have hc := h.cap
  have hs := h.small
  have hu : Tryz.prog.underlying 22 = some (.slice (Tryz.prog.elem 22)) := by kernel_rfl
  refine ⟨if c = 1 then some ⟨B, o, none⟩ else some ⟨B, o + 5, none⟩, c - 1, fun W => ?_, ?_⟩
  · rw [run_sliceAt_slice W 22 _ _ _ _ hu, run_slice_l W 22 _ (n + 1) c hu .i64 1 (by omega) (by omega)]
    have hz : (sizeOf (Tryz.prog.elem 22)).run Tryz.prog W = .ok 5 W := by kernel_rfl
    rw [hz]
    by_cases h1 : c = 1 <;> simp [sliced, h1, Addr.add]
  · by_cases h1 : c = 1
    · rw [if_pos h1]
      obtain rfl : n = 0 := by omega
      have hl := h.len
      obtain rfl : vs = [] := List.eq_nil_of_length_eq_zero (by simpa using hl)
      exact VIn.nil w _ _ (by omega)
    · rw [if_neg h1]
      exact h.tail
theorem VIn.head {w : World} {a : Option Addr} {n c : Nat} {x : Vd} {vs : List Vd} (h : VIn w a n c (x :: vs)) : ∃ B o m, a = some ⟨B, o, none⟩ ∧ n = m + 1 ∧ B < w.heap.size ∧ w.rangeAt B o x.cells ∧ x.ok := by
  have hl := h.len
  obtain ⟨B, o, e, hB, hr⟩ := h.row (by simp at hl; omega)
  have := hr 0 x rfl
  rw [Nat.zero_mul, Nat.add_zero] at this
  exact ⟨B, o, vs.length, e, by simpa using hl.symm, hB, this, h.ok x (by simp)⟩
end ValN
end Go.Proofs.YtpambhlhkmkagaaGreatDoor

