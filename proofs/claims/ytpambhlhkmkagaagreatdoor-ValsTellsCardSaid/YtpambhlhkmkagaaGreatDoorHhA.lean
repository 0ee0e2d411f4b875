/-
  header.Hash.
-/
import Derived.Test.YtpambhlhkmkagaaGreatDoorBlkM
import Derived.Test.YtpambhlhkmkagaaGreatDoorWirM
import Derived.Test.YtpambhlhkmkagaaGreatDoorWirS
import Derived.Test.YtpambhlhkmkagaaGreatDoorPvD
import Derived.Test.YtpambhlhkmkagaaGreatDoorPvE
import Derived.Test.YtpambhlhkmkagaaGreatDoorPvF
import Derived.Test.YtpambhlhkmkagaaGreatDoorPvH
import Derived.Test.YtpambhlhkmkagaaGreatDoorPvI
import Derived.Test.YtpambhlhkmkagaaGreatDoorPvK
import Derived.Test.YtpambhlhkmkagaaGreatDoorPvO
import Derived.Test.YtpambhlhkmkagaaGreatDoorPvB
import Derived.Test.YtpambhlhkmkagaaGreatDoorPvC
namespace Go.Proofs.YtpambhlhkmkagaaGreatDoor
namespace HhA
open Go.RowKit
open BlkM WirM WirS
open WirE (NewB)
open WirX (Thg Bag own bag_own)
open WirAA (box bag_box)
open WirAB (sCx)
open WirRT (rng)
open WrwA (NO cat no_one)
open BlkG (Glob)
open BlkP (eqH)
open BlkR (alH)

theorem bag_row {w0 w : World} {l : List Thg} {T : TypeId} {X : Nat} {cs : List Value} (h : Bag w0 w (box T X cs :: l)) (c : List Value) : Bag w0 (w.setRow X c.toArray) (box T X c :: l) :=
  h.act (WirO.Fr.setRow (Fr.refl _ _) X _ (fun _ => rfl)) (At.put h.head c) (fun _ hk => .inl hk)
end HhA
end Go.Proofs.YtpambhlhkmkagaaGreatDoor
