/-
  PaceW, in one text.
-/
import Derived.Test.YtfmegeibnjmfpaaDoorProg
import Derived.WalkKit
import Derived.WalkSpells
import Derived.WalkLawsBesides
import Derived.BigQuiet
import Derived.BigRegion
import Derived.RegionTactic
import Derived.ChangeAlike
import Derived.Deep.QuietTactic
import Derived.StillTailTactics
import Derived.Deep.RegionHeld3
import Derived.Deep.DeepCutAuto
import Derived.KernelRfl
import Derived.Laws.Externs
import Derived.Below
import Derived.OwnWalk
import Derived.Shelf.Spec.BitsCarry
namespace Go.Proofs.YtfmegeibnjmfpaaDoor
namespace PaceA
open Go.RowKit Go.Shelf


theorem hide {p : Prop} (h : p) : Hid p := h
/-! ### Compare -/
end PaceA
end Go.Proofs.YtfmegeibnjmfpaaDoor

