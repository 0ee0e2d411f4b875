/-
  A thing that comes in, opened.
-/
import Derived.Test.YtplinpbmncccoaaWirNB
import Derived.ProofKit
import Derived.OpenShut
import Derived.ShutString
import Derived.ChangeOld
import Derived.Lib.SmallJoins
namespace Go.Proofs.Ytplinpbmncccoaa
namespace WirO1
open Go.RowKit PaceA FltC Go.WideShapes Go.ChangeShapes Go.ChangeAt
open BlkM WirM WirS WirA WirB WirC WirD WirE WirF WirG WirH WirI WirJ WirK WirL WirN WirO WirP WirQ WirR WirT WirU WirV WirW WirX WirZ WirNA

section
variable {H : Type} {enc : TypeId × Value → H} {W : World}

theorem row8 {T : TypeId} {k : Nat} (hT : Try.prog.underlying T = some (.array k 5)) (hc : Try.prog.cellsOf T = k) {fuel : Nat} {cs : List Value} {x : DataW H × List MemPlace} (h : DataW.trod enc Try.prog W 0 (fun _ => true) true fuel T cs = some x) :
    ∃ l : List Int, cs = b8 l ∧ l.length = k ∧ ∀ x ∈ l, 0 ≤ x ∧ x < 256 := by
  have c1 : Try.prog.cellsOf 5 = 1 := by kernel_rfl
  obtain ⟨xs, m1, rfl, _, hlen, hn, hel⟩ := DataW.trod_array hT h
  simp only [c1, Nat.mul_one] at hel
  rw [hc] at hlen
  have key : ∀ i (hi : i < cs.length), ∃ z : Int, cs[i] = .int .u8 z ∧ 0 ≤ z ∧ z < 256 := by
    intro i hi
    have h1 := hel i (by omega)
    rw [List.getElem?_eq_getElem (show i < xs.length by omega)] at h1
    obtain ⟨z, e1, _, hw⟩ := DataW.trod_int Try.underlying5 h1
    have e : (cs.drop i).take 1 = [cs[i]] := by
      rw [List.drop_eq_getElem_cons hi]
      rfl
    rw [e] at e1
    refine ⟨z, by simpa using e1, ?_⟩
    simp [Lit.wf, IntKind.min, IntKind.max, IntKind.signed, IntKind.bits] at hw
    omega
  refine ⟨cs.map fun | .int _ z => z | _ => 0, ?_, by rw [List.length_map]; exact hlen, ?_⟩
  · apply List.ext_getElem
    · simp [b8]
    · intro i h1 h2
      obtain ⟨z, e, _⟩ := key i h1
      simp only [b8, List.getElem_map]
      rw [e]
  · intro x hx
    obtain ⟨c, hc, rfl⟩ := List.mem_map.1 hx
    obtain ⟨i, hi, rfl⟩ := List.getElem_of_mem hc
    obtain ⟨z, e, h0, h1⟩ := key i hi
    rw [e]
    exact ⟨h0, h1⟩

theorem b_some (W : World) (x : Addr) (l c : Nat) (zs : List Int) (hl : l ≤ c) (hz : zs.length = c) (hcell : ∀ i, i < zs.length → W.cell? (x.add i) = some (.int .u8 (zs.getD i 0))) (hwz : ∀ n ∈ zs, (Lit.int .u8 n).wf = true) :
    BIn W (.slice (some x) l c) (zs.take l) ∧ ∀ z ∈ zs.take l, 0 ≤ z ∧ z < 256 := by
  have hr : ∀ z ∈ zs, 0 ≤ z ∧ z < 256 := fun n hn => by
    have := hwz n hn
    simp [Lit.wf, IntKind.min, IntKind.max, IntKind.signed, IntKind.bits] at this
    omega
  have hlen : (zs.take l).length = l := by rw [List.length_take]; omega
  refine ⟨⟨some x, c, by rw [hlen], by omega, fun hne => ?_⟩, fun z h => hr z (List.mem_of_mem_take h)⟩
  have hpos : 0 < l := by
    rcases Nat.eq_zero_or_pos l with h | h
    · subst h; exact absurd (List.take_zero) hne
    · exact h
  obtain ⟨b, off, rfl, hc⟩ := Go.ints_at hcell (by omega)
  refine ⟨b, off, rfl, ?_, fun i hi => ?_⟩
  · have h0 := hc 0 (by omega)
    unfold World.cell? at h0
    rcases Nat.lt_or_ge b W.heap.size with h | h
    · exact h
    · have : W.heap[b]? = none := by simp [h]
      simp [this] at h0
  · rw [hlen] at hi
    rw [hc i (by omega)]
    simp [List.getD, hi]

theorem bytes_open {fuel : Nat} {cs : List Value} {x : DataW H × List MemPlace} (h : DataW.trod enc Try.prog W 0 (fun _ => true) true fuel 32 cs = some x) :
    ∃ va vn vc zs, cs = [.slice va vn vc] ∧ BIn W (.slice va vn vc) zs ∧ ∀ z ∈ zs, 0 ≤ z ∧ z < 256 := by
  rcases open_ints Try.underlying32 Try.underlying5 (by kernel_rfl) h with ⟨hcs, _⟩ | ⟨a, l, c, zs, hcs, _, hl, hm, hz, _, hcell, hwz⟩
  · exact ⟨none, 0, 0, [], hcs, BIn.nil W, fun x hx => absurd hx (by simp)⟩
  · obtain ⟨h1, h2⟩ := b_some W a l c zs hl (by simpa using hz) hcell hwz
    exact ⟨some a, l, c, zs.take l, hcs, h1, h2⟩
theorem part {cs : List Value} (n : Nat) {p : List Value} (k m : Nat) (h : (cs.drop n).take k = p) (e : n + k = m) : cs.drop n = p ++ cs.drop m := by
  subst h e
  rw [← List.drop_drop, List.take_append_drop]
theorem t_open {fuel : Nat} {cs : List Value} {x : DataW H × List MemPlace} (h : DataW.trod enc Try.prog W 0 (fun _ => true) true fuel 39 cs = some x) :
    ∃ (t : Td) (va : Option Addr) (vn vc : Nat) (zs : List Int), cs = t.cells ∧ Wf W t va vn vc zs ∧ (∀ z ∈ t.h, 0 ≤ z ∧ z < 256) ∧ ∀ z ∈ t.k, 0 ≤ z ∧ z < 256 := by
  have cI : Try.prog.cellsOf 3 = 1 := by kernel_rfl
  have cB : Try.prog.cellsOf 32 = 1 := by kernel_rfl
  have cH : Try.prog.cellsOf 34 = 32 := by kernel_rfl
  have cK : Try.prog.cellsOf 36 = 4 := by kernel_rfl
  have cU : Try.prog.cellsOf 37 = 1 := by kernel_rfl
  have cO : Try.prog.cellsOf 4 = 1 := by kernel_rfl
  have cT : Try.prog.cellsOf 39 = 41 := by kernel_rfl
  obtain ⟨xs, n, _, _, hl, hlen, hf⟩ := DataW.trod_struct Try.underlying39 h
  rw [cT] at hl
  have e0 := hf 0 _ rfl
  have e1 := hf 1 _ rfl
  have e2 := hf 2 _ rfl
  have e3 := hf 3 _ rfl
  have e4 := hf 4 _ rfl
  have e5 := hf 5 _ rfl
  have e6 := hf 6 _ rfl
  clear hf
  match xs, hlen with
  | [y0, y1, y2, y3, y4, y5, y6], _ =>
  obtain ⟨n0, p0, _, w0⟩ := DataW.trod_int Try.underlying3 e0
  obtain ⟨n1, p1, _, w1⟩ := DataW.trod_int Try.underlying3 e1
  obtain ⟨va, vn, vc, zs, p2, hb, hz⟩ := bytes_open e2
  obtain ⟨lh, p3, hlh, rh⟩ := row8 (k := 32) Try.underlying34 cH e3
  obtain ⟨lk, p4, hlk, rk⟩ := row8 (k := 4) Try.underlying36 cK e4
  obtain ⟨n5, p5, _, w5⟩ := DataW.trod_int Try.underlying37 e5
  obtain ⟨b6, p6, _⟩ := DataW.trod_bool Try.underlying4 e6
  have p0 : (cs.drop 0).take (Try.prog.cellsOf 3) = _ := p0
  have p1 : (cs.drop 1).take (Try.prog.cellsOf 3) = _ := p1
  have p2 : (cs.drop 2).take (Try.prog.cellsOf 32) = _ := p2
  have p3 : (cs.drop 3).take (Try.prog.cellsOf 34) = _ := p3
  have p4 : (cs.drop 35).take (Try.prog.cellsOf 36) = _ := p4
  have p5 : (cs.drop 39).take (Try.prog.cellsOf 37) = _ := p5
  have p6 : (cs.drop 40).take (Try.prog.cellsOf 4) = _ := p6
  rw [cI] at p0 p1
  rw [cB] at p2
  rw [cH] at p3
  rw [cK] at p4
  rw [cU] at p5
  rw [cO] at p6
  have q0 := part 0 1 1 p0 rfl
  have q1 := part 1 1 2 p1 rfl
  have q2 := part 2 1 3 p2 rfl
  have q3 := part 3 32 35 p3 rfl
  have q4 := part 35 4 39 p4 rfl
  have q5 := part 39 1 40 p5 rfl
  have q6 := part 40 1 41 p6 rfl
  have q7 : cs.drop 41 = [] := List.drop_eq_nil_of_le (by omega)
  rw [q1, q2, q3, q4, q5, q6, q7, List.drop_zero] at q0
  simp [Lit.wf, IntKind.min, IntKind.max, IntKind.signed, IntKind.bits] at w1 w5
  exact ⟨⟨n0, n1, .slice va vn vc, lh, lk, n5, b6, hlh, hlk⟩, va, vn, vc, zs, by simpa [Td.cells] using q0, ⟨rfl, hb, hz, by show _ ≤ n1; omega, by show n1 ≤ _; omega, by show 0 ≤ n5; omega, by show n5 < _; omega⟩, rh, rk⟩
set_option maxRecDepth 100000 in
theorem v_open {base : Nat} {v : Value} {d : DataW H} {p : List MemPlace} (hv : Value.okWide Try.prog W .any base 39 v) (h : DataW.Trod enc Try.prog W 0 (fun _ => true) true 39 v d p) :
    ∃ (t : Td) (va : Option Addr) (vn vc : Nat) (zs : List Int), v = .agg t.cells.toArray ∧ Wf W t va vn vc zs ∧ (∀ z ∈ t.h, 0 ≤ z ∧ z < 256) ∧ ∀ z ∈ t.k, 0 ≤ z ∧ z < 256 := by
  obtain ⟨cs, rfl, _⟩ := okWide_struct Try.underlying39 hv
  obtain ⟨fuel, hf⟩ := h
  obtain ⟨t, va, vn, vc, zs, e, hw⟩ := t_open hf
  have e' : cs.toList = t.cells := e
  refine ⟨t, va, vn, vc, zs, ?_, hw⟩
  rw [← e']
end
end WirO1
end Go.Proofs.Ytplinpbmncccoaa
