/-
  HdR, HdW, in one text.
-/
import Derived.Test.YtfmegeibnjmfpaaDoorPdQ
import Derived.Test.YtfmegeibnjmfpaaDoorPdM
import Derived.Test.YtfmegeibnjmfpaaDoorPdL
import Derived.Test.YtfmegeibnjmfpaaDoorPdC
import Derived.Deep.RegionHeld3
import Derived.Test.YtfmegeibnjmfpaaDoorPdS
import Derived.Test.YtfmegeibnjmfpaaDoorBlkM
import Derived.Test.YtfmegeibnjmfpaaDoorWirM
import Derived.Test.YtfmegeibnjmfpaaDoorWirS
import Derived.Test.YtfmegeibnjmfpaaDoorPdB
import Derived.Test.YtfmegeibnjmfpaaDoorPdD
import Derived.Test.YtfmegeibnjmfpaaDoorPdE
import Derived.Test.YtfmegeibnjmfpaaDoorPdF
import Derived.Test.YtfmegeibnjmfpaaDoorPdG
namespace Go.Proofs.YtfmegeibnjmfpaaDoor
namespace HdR
open Go.RowKit
open BlkM WirM WirS HdA HdB HdC HdE HdF HdG HdP HdQ
open WirD (numB)
open WirE (tb NewB)
open WirX (Thg Bag own bag_own)
open WirAA (box bag_box)
open WirAB (turn3 sCx)
open WirRT (rng)
open HdK HdN
open ValBK (slB sSh)
open WirH (sa bin_sub)

/-- A header, as it comes in. -/
structure HIn (t : Hd) : Prop where
  ch : t.ch.size ≤ 9223372036854775807
  hs : rng t.hs
end HdR
end Go.Proofs.YtfmegeibnjmfpaaDoor

namespace Go.Proofs.YtfmegeibnjmfpaaDoor
namespace HdW
open Go.RowKit Go.WideShapes Go.ChangeShapes Go.ChangeAt
open BlkM WirM WirS HdB HdR
open WirRT (rng)

section
variable {H : Type} {enc : TypeId × Value → H} {W : World}

theorem h_cells {fuel : Nat} {cs : List Value} {x : DataW H × List MemPlace} (h : DataW.trod enc Tryd.prog W 0 (fun _ => true) true fuel 58 cs = some x) :
    ∃ t : Hd, cs = t.cells ∧ HIn t := by
  have cS : Tryd.prog.cellsOf 9 = 1 := by kernel_rfl
  have cI : Tryd.prog.cellsOf 3 = 1 := by kernel_rfl
  have cH : Tryd.prog.cellsOf 26 = 32 := by kernel_rfl
  have cT : Tryd.prog.cellsOf 58 = 131 := by kernel_rfl
  obtain ⟨xs, n, _, _, hl, hlen, hf⟩ := DataW.trod_struct Tryd.underlying58 h
  rw [cT] at hl
  have e0 := hf 0 _ rfl
  have e1 := hf 1 _ rfl
  have e2 := hf 2 _ rfl
  have e3 := hf 3 _ rfl
  have e4 := hf 4 _ rfl
  have e5 := hf 5 _ rfl
  have e6 := hf 6 _ rfl
  clear hf
  match xs, hlen with
  | [y0, y1, y2, y3, y4, y5, y6], _ =>
  obtain ⟨s, p0, _, w0⟩ := DataW.trod_string Tryd.underlying9 e0
  obtain ⟨n1, p1, _, w1⟩ := DataW.trod_int Tryd.underlying3 e1
  obtain ⟨n2, p2, _, w2⟩ := DataW.trod_int Tryd.underlying3 e2
  obtain ⟨l3, p3, h3, r3⟩ := WirO1.row8 (k := 32) Tryd.underlying26 cH e3
  obtain ⟨l4, p4, h4, r4⟩ := WirO1.row8 (k := 32) Tryd.underlying26 cH e4
  obtain ⟨l5, p5, h5, r5⟩ := WirO1.row8 (k := 32) Tryd.underlying26 cH e5
  obtain ⟨l6, p6, h6, r6⟩ := WirO1.row8 (k := 32) Tryd.underlying26 cH e6
  have p0 : (cs.drop 0).take (Tryd.prog.cellsOf 9) = _ := p0
  have p1 : (cs.drop 1).take (Tryd.prog.cellsOf 3) = _ := p1
  have p2 : (cs.drop 2).take (Tryd.prog.cellsOf 3) = _ := p2
  have p3 : (cs.drop 3).take (Tryd.prog.cellsOf 26) = _ := p3
  have p4 : (cs.drop 35).take (Tryd.prog.cellsOf 26) = _ := p4
  have p5 : (cs.drop 67).take (Tryd.prog.cellsOf 26) = _ := p5
  have p6 : (cs.drop 99).take (Tryd.prog.cellsOf 26) = _ := p6
  rw [cS] at p0
  rw [cI] at p1 p2
  rw [cH] at p3 p4 p5 p6
  have q0 := WirO1.part 0 1 1 p0 rfl
  have q1 := WirO1.part 1 1 2 p1 rfl
  have q2 := WirO1.part 2 1 3 p2 rfl
  have q3 := WirO1.part 3 32 35 p3 rfl
  have q4 := WirO1.part 35 32 67 p4 rfl
  have q5 := WirO1.part 67 32 99 p5 rfl
  have q6 := WirO1.part 99 32 131 p6 rfl
  have q7 : cs.drop 131 = [] := List.drop_eq_nil_of_le (by omega)
  rw [q1, q2, q3, q4, q5, q6, q7, List.drop_zero] at q0
  refine ⟨⟨s, n1, n2, l3 ++ (l4 ++ (l5 ++ l6)), by simp [h3, h4, h5, h6]⟩, ?_, ⟨by unfold maxLen at w0; show s.size ≤ _; omega, ?_⟩⟩
  · rw [q0]
    simp [Hd.cells, b8]
  · intro x hx
    simp only [List.mem_append] at hx
    rcases hx with hx | hx | hx | hx
    · exact r3 x hx
    · exact r4 x hx
    · exact r5 x hx
    · exact r6 x hx
set_option maxRecDepth 100000 in
theorem v_open {base : Nat} {v : Value} {d : DataW H} {p : List MemPlace} (hv : Value.okWide Tryd.prog W .any base 58 v) (h : DataW.Trod enc Tryd.prog W 0 (fun _ => true) true 58 v d p) :
    ∃ t : Hd, v = .agg t.cells.toArray ∧ HIn t := by
  obtain ⟨cs, rfl, _⟩ := okWide_struct Tryd.underlying58 hv
  obtain ⟨fuel, hf⟩ := h
  obtain ⟨t, e, hw⟩ := h_cells hf
  have e' : cs.toList = t.cells := e
  refine ⟨t, ?_, hw⟩
  rw [← e']
end
end HdW
end Go.Proofs.YtfmegeibnjmfpaaDoor

