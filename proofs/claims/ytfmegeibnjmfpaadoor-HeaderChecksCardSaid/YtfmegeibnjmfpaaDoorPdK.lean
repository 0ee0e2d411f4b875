/-
  ValSM, in one text.
-/
import Derived.Test.YtfmegeibnjmfpaaDoorBlkM
import Derived.Test.YtfmegeibnjmfpaaDoorWirM
import Derived.Test.YtfmegeibnjmfpaaDoorWirS
import Derived.Test.YtfmegeibnjmfpaaDoorPdB
import Derived.Test.YtfmegeibnjmfpaaDoorPdC
import Derived.Test.YtfmegeibnjmfpaaDoorPdD
import Derived.Test.YtfmegeibnjmfpaaDoorPdE
import Derived.Test.YtfmegeibnjmfpaaDoorPdF
import Derived.Test.YtfmegeibnjmfpaaDoorPdG
import Derived.Test.YtfmegeibnjmfpaaDoorPdI
import Derived.Test.YtfmegeibnjmfpaaDoorPdJ
namespace Go.Proofs.YtfmegeibnjmfpaaDoor
namespace ValSM
open Go.RowKit
open BlkM WirM WirS ValK
open WirX (Thg Bag)

/-- One of the program's reader's calls, by the reader's state. -/
theorem p_of {α : Type} {f : α → Value} {z : α} {o : Nat → Sum Int (α × Nat)} {w0 w : World} {l : List Thg} {R : Nat} {a : Option Addr} {c : Nat} {bs : List Int} {s : St} {g : FuncId} {args : Array Value} (h : Bag w0 w (rdS R a c bs s :: l)) (hc : ∀ p cd, o p = .inl cd → cd ≠ 0)
    (CF : ∀ (p : Nat) (fe fa : Int), WirG.RSt w R a c bs p fe fa → fe ≠ 0 → Calls Tryd.prog g args w fun e w' => e = .returned (f z) ∧ Below w.heap.size w w')
    (CR : ∀ p : Nat, WirG.RSt w R a c bs p 0 0 → Calls Tryd.prog g args w (WirI.ReadPost w R a c bs p (f z) (WirJ.outOf f (o p)))) :
    Calls Tryd.prog g args w fun e w' => e = .returned (f (ValSK.rO z o s).1) ∧ Bag w0 w' (rdS R a c bs (ValSK.rO z o s).2 :: l) := by
  cases s with
  | inl fl =>
    obtain ⟨hne, p, hp⟩ := h.head
    exact (CF p fl.1 fl.2 hp hne).mono fun e w' ⟨h1, h2⟩ => ⟨h1, h.more h2⟩
  | inr p =>
    have hp : WirG.RSt w R a c bs p 0 0 := h.head
    refine (CR p hp).mono fun e w' hq => ?_
    rcases ho : o p with cd | x
    · rw [ho] at hq
      obtain ⟨h1, h2, h3⟩ := hq
      rw [ValSK.rO_l ho]
      exact ⟨h1, h.act (h3.mono fun _ _ hx => .inl hx) ⟨hc p cd ho, h2⟩ (fun _ hk => .inl hk)⟩
    · rw [ho] at hq
      obtain ⟨v, h1, h2, h3, h4⟩ := hq
      rw [ValSK.rO_r ho]
      exact ⟨by rw [h1, h2], h.act (h4.mono fun _ _ hx => .inl hx) h3 (fun _ hk => .inl hk)⟩
theorem p_hash {w0 w : World} {l : List Thg} {R : Nat} {a : Option Addr} {c : Nat} {bs : List Int} {s : St} (h : Bag w0 w (rdS R a c bs s :: l)) :
    Calls Tryd.prog 74 #[.pointer (some ⟨R, 0, none⟩)] w fun e w' => e = .returned (WirP.aggB (ValSK.rO (WirN.zz 32) (WirO.rowO 32 bs) s).1) ∧ Bag w0 w' (rdS R a c bs (ValSK.rO (WirN.zz 32) (WirO.rowO 32 bs) s).2 :: l) :=
  p_of (f := WirP.aggB) h (fun _ _ h => WirAA.row_code h) (fun p fe fa h hne => WirR.hash_fault w R a c bs p fe fa h hne) (fun p h => WirR.hash_read w R a c bs p h)
theorem p_text {w0 w : World} {l : List Thg} {R : Nat} {a : Option Addr} {c : Nat} {bs : List Int} {s : St} (most : Int) (h : Bag w0 w (rdS R a c bs s :: l)) :
    Calls Tryd.prog 72 #[.pointer (some ⟨R, 0, none⟩), .int .i64 most] w fun e w' => e = .returned (.string (WirJ.st (ValSK.rO [] (fun p => WirJ.sizedO bs p most) s).1)) ∧ Bag w0 w' (rdS R a c bs (ValSK.rO [] (fun p => WirJ.sizedO bs p most) s).2 :: l) :=
  p_of (f := fun zs => .string (WirJ.st zs)) h (fun _ _ h => WirAA.sized_code h) (fun p fe fa h hne => WirL.text_fault w R a c bs p fe fa most h hne) (fun p h => WirL.text_read w R a c bs p most h)
end ValSM
end Go.Proofs.YtfmegeibnjmfpaaDoor

