/-
  ValSK, in one text.
-/
import Derived.Test.YtfmegeibnjmfpaaDoorBlkM
import Derived.Test.YtfmegeibnjmfpaaDoorWirM
import Derived.Test.YtfmegeibnjmfpaaDoorWirS
import Derived.Test.YtfmegeibnjmfpaaDoorPdB
import Derived.Test.YtfmegeibnjmfpaaDoorPdC
import Derived.Test.YtfmegeibnjmfpaaDoorPdD
import Derived.Test.YtfmegeibnjmfpaaDoorPdE
import Derived.Test.YtfmegeibnjmfpaaDoorPdF
import Derived.Test.YtfmegeibnjmfpaaDoorPdG
import Derived.Test.YtfmegeibnjmfpaaDoorPdI
namespace Go.Proofs.YtfmegeibnjmfpaaDoor
namespace ValSK
open Go.RowKit
open BlkM WirM WirS ValK

open WirO (rowO)
open WirN (zz)
open WirRT (rng)

/-- What is read, and the state behind it: z where there is a fault. -/
def rO {α : Type} (z : α) (o : Nat → Sum Int (α × Nat)) : St → α × St
  | .inl f => (z, .inl f)
  | .inr p => match o p with
    | .inl c => (z, .inl (c, (p : Int)))
    | .inr x => (x.1, .inr x.2)
theorem rO_l {α : Type} {z : α} {o : Nat → Sum Int (α × Nat)} {p : Nat} {c : Int} (h : o p = .inl c) : rO z o (.inr p) = (z, .inl (c, (p : Int))) := by simp only [rO, h]
theorem rO_r {α : Type} {z : α} {o : Nat → Sum Int (α × Nat)} {p : Nat} {x : α × Nat} (h : o p = .inr x) : rO z o (.inr p) = (x.1, .inr x.2) := by simp only [rO, h]
open WirJ (numO sizedO)
/-- What Num answers is a number of the machine. -/
theorem numO_bd {bs : List Int} (hr : rng bs) {p : Nat} {x : Int × Nat} (h : numO bs p = .inr x) : 0 ≤ x.1 ∧ x.1 ≤ 9223372036854775807 ∧ x.2 ≤ bs.length := by
  have h1 := rN_ok hr (.inr p)
  simp only [rN, h] at h1
  refine ⟨h1.1, h1.2, ?_⟩
  unfold numO at h
  repeat' split at h
  all_goals first | (cases h; omega) | (simp at h; done) | (simp at h; rw [← h]; simp; omega)
end ValSK
end Go.Proofs.YtfmegeibnjmfpaaDoor

