/-
  ValSO, in one text.
-/
import Derived.Test.YtfmegeibnjmfpaaDoorBlkM
import Derived.Test.YtfmegeibnjmfpaaDoorWirM
import Derived.Test.YtfmegeibnjmfpaaDoorWirS
import Derived.Test.YtfmegeibnjmfpaaDoorPdB
import Derived.Test.YtfmegeibnjmfpaaDoorPdC
import Derived.Test.YtfmegeibnjmfpaaDoorPdD
import Derived.Test.YtfmegeibnjmfpaaDoorPdE
import Derived.Test.YtfmegeibnjmfpaaDoorPdF
import Derived.Test.YtfmegeibnjmfpaaDoorPdG
import Derived.Test.YtfmegeibnjmfpaaDoorPdI
import Derived.Test.YtfmegeibnjmfpaaDoorPdJ
import Derived.Test.YtfmegeibnjmfpaaDoorPdK
import Derived.Test.YtfmegeibnjmfpaaDoorPdL
import Derived.Deep.RegionHeld3
namespace Go.Proofs.YtfmegeibnjmfpaaDoor
namespace ValSO
open Go.RowKit
open BlkM WirM WirS ValK ValSK ValSM
open WirX (Thg Bag own)
open WirZ (Td)
open WirAA (box bag_box)
open WirAB (turn3)
open WirJ (sizedO st)
open WirO (rowO)
open WirP (aggB)
open WirN (zz)

open WirRT (rng)

theorem first3 {w0 w : World} {o1 o2 o3 : Thg} {l : List Thg} (h : Bag w0 w (o1 :: o2 :: o3 :: l)) : Bag w0 w (o2 :: o3 :: o1 :: l) :=
  h.perm ((List.Perm.swap _ _ _).trans (List.Perm.cons _ (.swap _ _ _)))
theorem rO_len (most : Int) (bs : List Int) (s : St) : (rO [] (fun p => sizedO bs p most) s).1.length ≤ bs.length := by
  cases s with
  | inl f => exact Nat.zero_le _
  | inr p =>
    rcases ho : sizedO bs p most with cd | x
    · rw [rO_l (o := fun p => sizedO bs p most) ho]
      exact Nat.zero_le _
    · rw [rO_r (o := fun p => sizedO bs p most) ho]
      unfold sizedO at ho
      repeat' split at ho
      all_goals first | (cases ho; simp only [List.length_take, List.length_drop]; omega) | (simp at ho; done)
end ValSO
end Go.Proofs.YtfmegeibnjmfpaaDoor

