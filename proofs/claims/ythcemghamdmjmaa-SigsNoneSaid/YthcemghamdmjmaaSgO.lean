/-
  A signature handed in, opened.
-/
import Derived.Test.YthcemghamdmjmaaSgB
import Derived.Test.YthcemghamdmjmaaPkG
namespace Go.Proofs.Ythcemghamdmjmaa
namespace SgO
open Go.RowKit Go.ChangeShapes Go.WideShapes Go.ChangeAt
open BlkM WirM WirS SgA SgB
open WirO1 (row8)
section
variable {H : Type} {enc : TypeId × Value → H} {W : World}
theorem sig_open {fuel : Nat} {cs : List Value} {x : DataW H × List MemPlace} (h : DataW.trod enc Try.prog W 0 (fun _ => true) true fuel 132 cs = some x) : ∃ v : Sg, cs = v.cells ∧ v.ok := by
  have cT : Try.prog.cellsOf 132 = 37 := by kernel_rfl
  obtain ⟨xs, n, _, _, hl, hlen, hf⟩ := DataW.trod_struct Try.underlying132 h
  rw [cT] at hl
  have e0 := hf 0 _ rfl
  have e1 := hf 1 _ rfl
  have e2 := hf 2 _ rfl
  clear hf
  match xs, hlen with
  | [y0, y1, y2], _ =>
  obtain ⟨lk, p0, hlk, rk⟩ := row8 (k := 4) Try.underlying36 cK e0
  obtain ⟨lh, p1, hlh, rh⟩ := row8 (k := 32) Try.underlying34 cH e1
  obtain ⟨n1, p2, _, w1⟩ := DataW.trod_int Try.underlying37 e2
  have p0 : (cs.drop 0).take (Try.prog.cellsOf 36) = _ := p0
  have p1 : (cs.drop 4).take (Try.prog.cellsOf 34) = _ := p1
  have p2 : (cs.drop 36).take (Try.prog.cellsOf 37) = _ := p2
  rw [cK] at p0
  rw [cH] at p1
  rw [cW] at p2
  have q0 := WirO1.part 0 4 4 p0 rfl
  have q1 := WirO1.part 4 32 36 p1 rfl
  have q2 := WirO1.part 36 1 37 p2 rfl
  have q3 : cs.drop 37 = [] := List.drop_eq_nil_of_le (by omega)
  rw [q1, q2, q3, List.drop_zero] at q0
  simp [Lit.wf, IntKind.min, IntKind.max, IntKind.signed, IntKind.bits] at w1
  exact ⟨⟨lk, lh, n1⟩, by simpa [Sg.cells] using q0, ⟨hlk, hlh, rk, rh, ⟨by show 0 ≤ n1; omega, by show n1 < _; omega⟩⟩⟩
end
set_option maxRecDepth 100000 in
theorem sig_in {H : Type} {enc : TypeId × Value → H} {W : World} {base : Nat} {v : Value} {d : DataW H} {p : List MemPlace} (hv : Value.okWide Try.prog W .any base 132 v) (h : DataW.Trod enc Try.prog W 0 (fun _ => true) true 132 v d p) :
    ∃ t : Sg, v = t.val ∧ t.ok := by
  obtain ⟨cs, rfl, _⟩ := okWide_struct Try.underlying132 hv
  obtain ⟨fuel, hf⟩ := h
  obtain ⟨t, e, hw⟩ := sig_open hf
  have e' : cs.toList = t.cells := e
  refine ⟨t, ?_, hw⟩
  unfold Sg.val
  rw [← e']
end SgO
end Go.Proofs.Ythcemghamdmjmaa
