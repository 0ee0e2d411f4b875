/-
  ValSM, ValSN, in one text.
-/
import Derived.Test.YthcemghamdmjmaaPkJ
import Derived.Test.YthcemghamdmjmaaPkI
import Derived.Test.YthcemghamdmjmaaPkG
namespace Go.Proofs.Ythcemghamdmjmaa
namespace ValSM
open Go.RowKit
open BlkM WirM WirS ValSA ValSC ValK
open WirX (Thg Bag)

/-- The statements' own reader, in such a state. -/
def rfS (R : Nat) (a : Option Addr) (c : Nat) (bs : List Int) (s : St) : Thg where
  ok w := RS w R a c bs s
  foot k := k = R ∨ (Value.slice a bs.length c).ownBlock = some k
  stable {X w w'} h hf hX := ValSE.RS.fr h hf (hX R (.inl rfl)) (fun k hk => hX k (.inr hk))
  inside {w} h k hk := by
    have key : ∃ p fe fa : Int, RR w R a c bs p fe fa := by
      cases s with
      | inl f => exact ⟨h.2.choose, _, _, h.2.choose_spec⟩
      | inr p => exact ⟨_, _, _, h.2⟩
    obtain ⟨p, fe, fa, hp⟩ := key
    rcases hk with rfl | hk
    · exact hp.cell.lt
    · exact hp.olt k hk
/-- One of its calls: only it changes. -/
theorem x_act {w0 w : World} {l : List Thg} {R : Nat} {a : Option Addr} {c : Nat} {bs : List Int} {s s' : St} {g : FuncId} {args : Array Value} {v : Ending} (h : Bag w0 w (rfS R a c bs s :: l))
    (C : Calls Try.prog g args w fun e w' => e = v ∧ RS w' R a c bs s' ∧ Fr (fun k => k = R) w w') : Calls Try.prog g args w fun e w' => e = v ∧ Bag w0 w' (rfS R a c bs s' :: l) :=
  C.mono fun _ _ ⟨h1, h2, h3⟩ => ⟨h1, h.act (h3.mono fun _ _ hx => .inl hx) h2 (fun _ hk => .inl hk)⟩
theorem x_more {w0 w : World} {l : List Thg} {g : FuncId} {args : Array Value} {v : Ending} (h : Bag w0 w l) (C : Calls Try.prog g args w fun e w' => e = v ∧ Below w.heap.size w w') : Calls Try.prog g args w fun e w' => e = v ∧ Bag w0 w' l :=
  C.mono fun _ _ ⟨h1, h2⟩ => ⟨h1, h.more h2⟩
/-- One of the program's reader's calls, by the reader's state. -/
theorem p_of {α : Type} {f : α → Value} {z : α} {o : Nat → Sum Int (α × Nat)} {w0 w : World} {l : List Thg} {R : Nat} {a : Option Addr} {c : Nat} {bs : List Int} {s : St} {g : FuncId} {args : Array Value} (h : Bag w0 w (rdS R a c bs s :: l)) (hc : ∀ p cd, o p = .inl cd → cd ≠ 0)
    (CF : ∀ (p : Nat) (fe fa : Int), WirG.RSt w R a c bs p fe fa → fe ≠ 0 → Calls Try.prog g args w fun e w' => e = .returned (f z) ∧ Below w.heap.size w w')
    (CR : ∀ p : Nat, WirG.RSt w R a c bs p 0 0 → Calls Try.prog g args w (WirI.ReadPost w R a c bs p (f z) (WirJ.outOf f (o p)))) :
    Calls Try.prog g args w fun e w' => e = .returned (f (ValSK.rO z o s).1) ∧ Bag w0 w' (rdS R a c bs (ValSK.rO z o s).2 :: l) := by
  cases s with
  | inl fl =>
    obtain ⟨hne, p, hp⟩ := h.head
    exact (CF p fl.1 fl.2 hp hne).mono fun e w' ⟨h1, h2⟩ => ⟨h1, h.more h2⟩
  | inr p =>
    have hp : WirG.RSt w R a c bs p 0 0 := h.head
    refine (CR p hp).mono fun e w' hq => ?_
    rcases ho : o p with cd | x
    · rw [ho] at hq
      obtain ⟨h1, h2, h3⟩ := hq
      rw [ValSK.rO_l ho]
      exact ⟨h1, h.act (h3.mono fun _ _ hx => .inl hx) ⟨hc p cd ho, h2⟩ (fun _ hk => .inl hk)⟩
    · rw [ho] at hq
      obtain ⟨v, h1, h2, h3, h4⟩ := hq
      rw [ValSK.rO_r ho]
      exact ⟨by rw [h1, h2], h.act (h4.mono fun _ _ hx => .inl hx) h3 (fun _ hk => .inl hk)⟩
theorem p_word {w0 w : World} {l : List Thg} {R : Nat} {a : Option Addr} {c : Nat} {bs : List Int} {s : St} (h : Bag w0 w (rdS R a c bs s :: l)) :
    Calls Try.prog 42 #[.pointer (some ⟨R, 0, none⟩)] w fun e w' => e = .returned (.int .u64 (ValSK.rO 0 (WirJ.wordO bs) s).1) ∧ Bag w0 w' (rdS R a c bs (ValSK.rO 0 (WirJ.wordO bs) s).2 :: l) :=
  p_of (f := fun x => .int .u64 x) h (fun _ _ h => WirAA.word_code h) (fun p fe fa h hne => WirK.word_fault w R a c bs p fe fa h hne) (fun p h => WirK.word_read w R a c bs p h)
theorem p_bool {w0 w : World} {l : List Thg} {R : Nat} {a : Option Addr} {c : Nat} {bs : List Int} {s : St} (h : Bag w0 w (rdS R a c bs s :: l)) :
    Calls Try.prog 44 #[.pointer (some ⟨R, 0, none⟩)] w fun e w' => e = .returned (.bool (ValSK.rO false (WirJ.boolO bs) s).1) ∧ Bag w0 w' (rdS R a c bs (ValSK.rO false (WirJ.boolO bs) s).2 :: l) :=
  p_of (f := fun x => .bool x) h (fun _ _ h => WirAA.bool_code h) (fun p fe fa h hne => WirK.bool_fault w R a c bs p fe fa h hne) (fun p h => WirK.bool_read w R a c bs p h)
theorem p_hash {w0 w : World} {l : List Thg} {R : Nat} {a : Option Addr} {c : Nat} {bs : List Int} {s : St} (h : Bag w0 w (rdS R a c bs s :: l)) :
    Calls Try.prog 40 #[.pointer (some ⟨R, 0, none⟩)] w fun e w' => e = .returned (WirP.aggB (ValSK.rO (WirN.zz 32) (WirO.rowO 32 bs) s).1) ∧ Bag w0 w' (rdS R a c bs (ValSK.rO (WirN.zz 32) (WirO.rowO 32 bs) s).2 :: l) :=
  p_of (f := WirP.aggB) h (fun _ _ h => WirAA.row_code h) (fun p fe fa h hne => WirR.hash_fault w R a c bs p fe fa h hne) (fun p h => WirR.hash_read w R a c bs p h)
theorem p_key {w0 w : World} {l : List Thg} {R : Nat} {a : Option Addr} {c : Nat} {bs : List Int} {s : St} (h : Bag w0 w (rdS R a c bs s :: l)) :
    Calls Try.prog 41 #[.pointer (some ⟨R, 0, none⟩)] w fun e w' => e = .returned (WirP.aggB (ValSK.rO (WirN.zz 4) (WirO.rowO 4 bs) s).1) ∧ Bag w0 w' (rdS R a c bs (ValSK.rO (WirN.zz 4) (WirO.rowO 4 bs) s).2 :: l) :=
  p_of (f := WirP.aggB) h (fun _ _ h => WirAA.row_code h) (fun p fe fa h hne => WirR.key_fault w R a c bs p fe fa h hne) (fun p h => WirR.key_read w R a c bs p h)
theorem p_pace {w0 w : World} {l : List Thg} {R : Nat} {a : Option Addr} {c : Nat} {bs : List Int} {s : St} (h : Bag w0 w (rdS R a c bs s :: l)) :
    Calls Try.prog 43 #[.pointer (some ⟨R, 0, none⟩)] w fun e w' => e = .returned (.float .f64 (ValSK.rO 0 (WirW.paceO bs) s).1) ∧ Bag w0 w' (rdS R a c bs (ValSK.rO 0 (WirW.paceO bs) s).2 :: l) :=
  p_of (f := fun x : Nat => .float .f64 x) h (fun _ _ h => WirAA.pace_code h) (fun p fe fa h hne => WirW.pace_fault w R a c bs p fe fa h hne) (fun p h => WirW.pace_read w R a c bs p h)
theorem p_text {w0 w : World} {l : List Thg} {R : Nat} {a : Option Addr} {c : Nat} {bs : List Int} {s : St} (most : Int) (h : Bag w0 w (rdS R a c bs s :: l)) :
    Calls Try.prog 38 #[.pointer (some ⟨R, 0, none⟩), .int .i64 most] w fun e w' => e = .returned (.string (WirJ.st (ValSK.rO [] (fun p => WirJ.sizedO bs p most) s).1)) ∧ Bag w0 w' (rdS R a c bs (ValSK.rO [] (fun p => WirJ.sizedO bs p most) s).2 :: l) :=
  p_of (f := fun zs => .string (WirJ.st zs)) h (fun _ _ h => WirAA.sized_code h) (fun p fe fa h hne => WirL.text_fault w R a c bs p fe fa most h hne) (fun p h => WirL.text_read w R a c bs p most h)
end ValSM
end Go.Proofs.Ythcemghamdmjmaa

namespace Go.Proofs.Ythcemghamdmjmaa
namespace ValSN
open Go.RowKit
open BlkM WirM WirS ValSA ValSC ValK ValSK ValSM
open WirX (Thg Bag own)
open WirJ (sizedO)
open WirL (restN)
open WirT (fault)
open WirRT (rng)

/-- A new object beside those that lay there. -/
theorem bag_fresh {w0 w w' : World} {o : Thg} {l : List Thg} (hw : w0.heap.size ≤ w.heap.size) (hb : Bag w0 w' l) (ho : o.ok w') (hn : ∀ k, o.foot k → w.heap.size ≤ k) (hl : ∀ y ∈ l, ∀ k, y.foot k → k < w.heap.size) : Bag w0 w' (o :: l) :=
  ⟨hb.low, fun y hy => by
    rcases List.mem_cons.1 hy with rfl | hy
    · exact ⟨ho, fun k hk => Nat.le_trans hw (hn k hk)⟩
    · exact hb.all y hy, List.pairwise_cons.2 ⟨fun y hy k hk hk' => by
    have h1 := hn k hk
    have h2 := hl y hy k hk'
    omega, hb.apart⟩⟩
/-- The program's Bytes. -/
theorem p_bytes {w0 w : World} {l : List Thg} {R : Nat} {a : Option Addr} {c : Nat} {bs : List Int} {s : St} (most : Int) (h : Bag w0 w (rdS R a c bs s :: l)) :
    Calls Try.prog 39 #[.pointer (some ⟨R, 0, none⟩), .int .i64 most] w fun e w' => ∃ va vn vc, e = .returned (.slice va vn vc) ∧ Bag w0 w' (own (.slice va vn vc) (rO [] (fun p => sizedO bs p most) s).1 :: rdS R a c bs (rO [] (fun p => sizedO bs p most) s).2 :: l) := by
  cases s with
  | inl f =>
    obtain ⟨hne, p, hp⟩ := h.head
    refine (WirL.bytes_fault w R a c bs p f.1 f.2 most hp hne).mono fun e w' ⟨h1, h2⟩ => ⟨none, 0, 0, h1, ?_⟩
    exact (h.more h2).new (Below.refl _ w') (WirAA.own_nil w') (fun k hk => by cases hk)
  | inr p =>
    refine (WirL.bytes_read w R a c bs p most h.head).mono fun e w' hq => ?_
    rcases ho : sizedO bs p most with cd | x
    · rw [ho] at hq
      obtain ⟨h1, h2, h3⟩ := hq
      rw [rO_l (o := fun p => sizedO bs p most) ho]
      exact ⟨none, 0, 0, h1, (h.act (o' := rdS R a c bs (.inl (cd, (p : Int)))) (h3.mono fun _ _ hx => .inl hx) ⟨WirAA.sized_code ho, h2⟩ (fun _ hk => .inl hk)).new (Below.refl _ w') (WirAA.own_nil w') (fun k hk => by cases hk)⟩
    · rw [ho] at hq
      obtain ⟨v, h1, ⟨va, vn, vc, hv, h5, h6⟩, h3, h4⟩ := hq
      rw [rO_r (o := fun p => sizedO bs p most) ho]
      refine ⟨va, vn, vc, by rw [h1, hv], bag_fresh h.low.size (h.act (o' := rdS R a c bs (.inr x.2)) (h4.mono fun _ _ hx => .inl hx) h3 (fun _ hk => .inl hk)) h5 h6 (fun y hy k hk => ?_)⟩
      rcases List.mem_cons.1 hy with rfl | hy
      · exact (rdS R a c bs (.inr p)).inside h.head k hk
      · exact y.inside (h.all y (by simp [hy])).1 k hk
/-- What is left, in either reader. -/
theorem p_rest {w0 w : World} {l : List Thg} {R : Nat} {a : Option Addr} {c : Nat} {bs : List Int} {s : St} (h : Bag w0 w (rdS R a c bs s :: l)) :
    Calls Try.prog 33 #[.pointer (some ⟨R, 0, none⟩)] w fun e w' => e = .returned (.int .i64 (ValSG.restS bs s)) ∧ Bag w0 w' (rdS R a c bs s :: l) := by
  cases s with
  | inl f =>
    obtain ⟨hne, p, hp⟩ := h.head
    refine (WirL.rest_any w R a c bs p f.1 f.2 hp).mono fun e w' ⟨h1, q, h2⟩ => ⟨?_, by rw [h2]; exact h.more (below_drewN (Below.refl _ _) q)⟩
    rw [h1]
    unfold restN ValSG.restS
    rw [if_neg hne]
  | inr p =>
    exact (WirL.rest_any w R a c bs p 0 0 h.head).mono fun e w' ⟨h1, q, h2⟩ => ⟨h1, by rw [h2]; exact h.more (below_drewN (Below.refl _ _) q)⟩
theorem x_rest {w0 w : World} {l : List Thg} {R : Nat} {a : Option Addr} {c : Nat} {bs : List Int} {s : St} (h : Bag w0 w (rfS R a c bs s :: l)) (hs : bs.length ≤ 1099511627776) :
    Calls Try.prog 34 #[.pointer (some ⟨R, 0, none⟩)] w fun e w' => e = .returned (.int .i64 (ValSG.restS bs s)) ∧ Bag w0 w' (rfS R a c bs s :: l) := x_more h (ValSG.rs_rest w R a c bs s h.head hs)
theorem x_end {w0 w : World} {l : List Thg} {R : Nat} {a : Option Addr} {c : Nat} {bs : List Int} {s : St} (h : Bag w0 w (rfS R a c bs s :: l)) :
    Calls Try.prog 36 #[.pointer (some ⟨R, 0, none⟩)] w fun e w' => e = .returned (.agg #[.int .i64 (endS bs s).1, .int .i64 (endS bs s).2]) ∧ Bag w0 w' (rfS R a c bs s :: l) := x_more h (ValSD.rs_end w R a c bs s h.head)
/-- Bytes that are read are bytes. -/
theorem rO_rng {bs : List Int} (hr : rng bs) (most : Int) (s : St) : rng (rO [] (fun p => sizedO bs p most) s).1 := by
  cases s with
  | inl f => intro x hx; cases hx
  | inr p =>
    rcases ho : sizedO bs p most with cd | x
    · rw [rO_l (o := fun p => sizedO bs p most) ho]
      intro x hx; cases hx
    · rw [rO_r (o := fun p => sizedO bs p most) ho]
      unfold sizedO at ho
      repeat' split at ho
      all_goals first | (cases ho; exact WirRT.rng_part hr _ _) | (simp at ho; done)
end ValSN
end Go.Proofs.Ythcemghamdmjmaa

