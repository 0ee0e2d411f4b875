/-
  WrwA, in one text.
-/
import Derived.Test.YtfmegeibnjmfpaaDoorPdM
import Derived.Test.YtfmegeibnjmfpaaDoorBlkM
import Derived.Test.YtfmegeibnjmfpaaDoorWirM
import Derived.Test.YtfmegeibnjmfpaaDoorWirS
import Derived.Test.YtfmegeibnjmfpaaDoorPdB
import Derived.Test.YtfmegeibnjmfpaaDoorPdC
import Derived.Test.YtfmegeibnjmfpaaDoorPdD
import Derived.Test.YtfmegeibnjmfpaaDoorPdF
import Derived.Test.YtfmegeibnjmfpaaDoorPdG
import Derived.Test.YtfmegeibnjmfpaaDoorPdL
import Derived.Deep.AppendSrc
namespace Go.Proofs.YtfmegeibnjmfpaaDoor
namespace WrwA
open Go.RowKit
open BlkM WirM WirS WirA
open WirB (len_of)
open WirD (nb numB nb_le)
open WirE (NewB tb)

open WirRT (dg dg_len)
open WirBC (numB_dg nb_up dg_head)

/-- Bytes of a call's own, made behind a world. -/
def NO (w U : World) (v : Value) (zs : List Int) : Prop := WirM.Own U 5 v zs ∧ NewB w v ∧ Below w.heap.size w U
theorem NO.more {w U U' : World} {v : Value} {zs : List Int} (h : NO w U v zs) (hb : Below U.heap.size U U') : NO w U' v zs :=
  ⟨h.1.fr (X := fun _ => False) (Fr.of_below hb) (fun _ _ h => h), h.2.1, h.2.2.trans (hb.mono h.2.2.size)⟩
theorem no_one (w U : World) (x : Int) (hb : Below w.heap.size w U) : NO w (U.alloc (.cells #[.int .u8 x] 5)) (.slice (some ⟨U.heap.size, 0, none⟩) 1 1) [x] :=
  ⟨⟨rfl, .inr ⟨U.heap.size, 1, #[.int .u8 x], rfl, Nat.zero_le _, heap_alloc_new U _, Nat.le_refl _, by decide, rfl, rfl⟩⟩, fun k hk => by cases hk; exact hb.size, Below.alloc hb hb.size _⟩
/-- append, onto bytes of the call's own. -/
theorem cat {w U : World} {d s : Value} {ys zs : List Int} (h : NO w U d ys) (hs : BIn U s zs) (hl : ys.length + zs.length ≤ 1099511627776) :
    ∃ a m c U', m = (ys ++ zs).length ∧ (Builtin.append_ #[22, 22] 22 #[d, s]).run Tryd.prog U = .ok (.slice a m c) U' ∧ NO w U' (.slice a m c) (ys ++ zs) ∧ Fr (fun k => d.ownBlock = some k) U U' := by
  obtain ⟨i0, hi, hz0, hz1, hz2⟩ := info_parts (show (Tryd.prog.info? 5).map (fun i => (i.zero, i.size, i.bytes)) = some (some (.int .u8 0), 1, 1) by kernel_rfl)
  obtain ⟨v1, u1, r1, o1, f1, n1⟩ := app_any (P := Tryd.prog) U 22 22 22 5 i0 _ Tryd.underlying22 hi hz0 hz1 hz2 rfl d s ys zs h.1 (hs.src Tryd.underlying22) hl
  obtain ⟨a, c, rfl⟩ := len_of o1
  refine ⟨a, _, c, u1, rfl, r1, ⟨o1, fun k hk => ?_, h.2.2.trans (f1.below h.2.2.size fun k hk hx => ?_)⟩, f1⟩
  · rcases n1 k hk with hx | hx
    · exact h.2.1 k hx
    · exact Nat.le_trans h.2.2.size hx
  · have := h.2.1 k hx
    omega
end WrwA
end Go.Proofs.YtfmegeibnjmfpaaDoor

