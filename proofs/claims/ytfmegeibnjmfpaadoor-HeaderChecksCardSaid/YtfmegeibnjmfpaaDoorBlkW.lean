/-
  What the listed variable gives a walk: the package's eight words lie in their cells; and a world in which they do.
-/
import Derived.Test.YtfmegeibnjmfpaaDoorRows
import Derived.Test.YtfmegeibnjmfpaaDoorBlkK
import Derived.ProofKit
import Derived.LaidMore
import Derived.OpenShut
import Derived.Stop.Joined
namespace Go.Proofs.YtfmegeibnjmfpaaDoor
namespace BlkW
open Go.ChangeShapes Go.WideShapes Go.ChangeAt Go.RowKit
open BlkM BlkG BlkI BlkK
theorem own : ownKnob Tryd.prog.godebug = none := by kernel_rfl
theorem laidOut : laidOutB Tryd.prog = true := by kernel_rfl
theorem gIni : Tryd.prog.globalNamed "landfall/blake.initial" = some 0 := by kernel_rfl
theorem tIni : (Tryd.prog.globals[0]?).map (·.type) = some 41 := by kernel_rfl
/-- The one listed variable. -/
def laid1 {H : Type} : List (String × DataW H) := [("landfall/blake.initial", Rows.laid_landfall_blake_initial)]
theorem door_met (os : Os) (args : Array Value) : laidMetH Tryd.prog laid1 ((World.doorLaid Tryd.prog 400 os).forCall (fun _ _ => 0) ⟨#[], args, []⟩).memory :=
  laidMetH_of_parts3 (fuel := 8) (laidMet_of_run' 8 (by kernel_rfl) (by kernel_rfl)) (by kernel_rfl) (by kernel_rfl)
theorem glob_of_laid {W : World} (h : laidMetH Tryd.prog laid1 W) : Glob W := by
  rw [MakeChecks.laidMetH_plain _ _ _ (by kernel_rfl)] at h
  obtain ⟨ps, ⟨g0, t0, cs0, f0, p0, q0, hg0, ht0, hv0, hd0, _, _⟩, _, _⟩ := h
  obtain rfl := Option.some.inj (gIni.symm.trans hg0)
  obtain rfl := Option.some.inj (tIni.symm.trans ht0)
  obtain ⟨xs, m1, rfl, hx1, hlen, hn3, hel⟩ := DataW.trod_array Tryd.underlying41 hd0
  have c3 : Tryd.prog.cellsOf 40 = 1 := by kernel_rfl
  have c8 : Tryd.prog.cellsOf 41 = 8 := by kernel_rfl
  rw [c8] at hlen
  simp only [c3, Nat.mul_one] at hel
  simp only [Prod.mk.injEq] at hx1
  have hx2 : xs.map (·.1) = [.lit (.int .u32 1779033703), .lit (.int .u32 3144134277), .lit (.int .u32 1013904242), .lit (.int .u32 2773480762), .lit (.int .u32 1359893119), .lit (.int .u32 2600822924), .lit (.int .u32 528734635), .lit (.int .u32 1541459225)] := by
    have := hx1.1
    unfold Rows.laid_landfall_blake_initial at this
    simpa using this.symm
  have key : ∀ i, i < 8 → cs0.toList[i]? = some (.int .u32 (ini.getD i 0)) := by
    intro i hi
    have hxi : i < xs.length := by omega
    have h1 := hel i hi
    rw [List.getElem?_eq_getElem hxi] at h1
    have h2 : (xs.map (·.1))[i]? = some (xs[i].1) := by simp [hxi]
    obtain ⟨k, e1, e2, _⟩ := DataW.trod_int Tryd.underlying40 h1
    have hci : i < cs0.toList.length := by omega
    have e3 : cs0.toList[i] = .int .u32 k := by
      have : ((cs0.toList.drop i).take 1) = [cs0.toList[i]] := by
        rw [List.drop_eq_getElem_cons hci]
        rfl
      rw [this] at e1
      simpa using e1
    have e4 : xs[i].1 = .lit (.int .u32 k) := by rw [e2]
    rw [hx2, e4] at h2
    have e5 : k = ini.getD i 0 := by
      match i, hi with
      | 0, _ => simpa [ini] using h2.symm
      | 1, _ => simpa [ini] using h2.symm
      | 2, _ => simpa [ini] using h2.symm
      | 3, _ => simpa [ini] using h2.symm
      | 4, _ => simpa [ini] using h2.symm
      | 5, _ => simpa [ini] using h2.symm
      | 6, _ => simpa [ini] using h2.symm
      | 7, _ => simpa [ini] using h2.symm
      | n + 8, h => omega
    rw [List.getElem?_eq_getElem hci, e3, e5]
  have hcell : ∀ i, i < 8 → W.cell? ⟨0, i, none⟩ = some (.int .u32 (ini.getD i 0)) := by
    intro i hi
    rw [World.var?_cell hg0 hv0 i]
    have := key i hi
    simpa using this
  refine ⟨?_, hcell⟩
  have h0 := hcell 0 (by omega)
  unfold World.cell? at h0
  rcases Nat.eq_zero_or_pos W.heap.size with h | h
  · have : W.heap[0]? = none := by simp [h]
    simp [this] at h0
  · exact h
/-- Bytes handed in, opened. -/
theorem b_some (W : World) (x : Addr) (l c : Nat) (zs : List Int) (hl : l ≤ c) (hz : zs.length = c) (hcell : ∀ i, i < zs.length → W.cell? (x.add i) = some (.int .u8 (zs.getD i 0))) (hwz : ∀ n ∈ zs, (Lit.int .u8 n).wf = true) :
    BIn W (.slice (some x) l c) (zs.take l) ∧ rng (zs.take l) := by
  have hr : rng zs := fun n hn => by
    have := hwz n hn
    simp [Lit.wf, IntKind.min, IntKind.max, IntKind.signed, IntKind.bits] at this
    omega
  have hlen : (zs.take l).length = l := by rw [List.length_take]; omega
  refine ⟨⟨some x, c, by rw [hlen], by omega, fun hne => ?_⟩, rng_take hr l⟩
  have hpos : 0 < l := by
    rcases Nat.eq_zero_or_pos l with h | h
    · subst h; exact absurd (List.take_zero) hne
    · exact h
  obtain ⟨b, off, rfl, hc⟩ := Go.ints_at hcell (by omega)
  refine ⟨b, off, rfl, ?_, fun i hi => ?_⟩
  · have h0 := hc 0 (by omega)
    unfold World.cell? at h0
    rcases Nat.lt_or_ge b W.heap.size with h | h
    · exact h
    · have : W.heap[b]? = none := by simp [h]
      simp [this] at h0
  · rw [hlen] at hi
    rw [hc i (by omega)]
    simp [List.getD, hi]
/-- A hash handed in, opened. -/
def ofCell : Value → Int | .int _ k => k | _ => 0
set_option maxRecDepth 10000 in
theorem h_open {H : Type} {enc : TypeId × Value → H} {W : World} {base : Nat} {v : Value} {d : DataW H} {p : List MemPlace} (hv : Value.okWide Tryd.prog W .any base 26 v)
    (h : DataW.Trod enc Tryd.prog W 0 (fun _ => true) true 26 v d p) : ∃ l : List Int, v = .agg (b8 l).toArray ∧ l.length = 32 ∧ rng l := by
  simp only [Value.okWide, Tryd.underlying26] at hv
  obtain ⟨cs, rfl, hsz, _⟩ := hv
  have c8 : Tryd.prog.cellsOf 26 = 32 := by kernel_rfl
  have c1 : Tryd.prog.cellsOf 5 = 1 := by kernel_rfl
  rw [c8] at hsz
  obtain ⟨fuel, hf⟩ := h
  obtain ⟨xs, m1, rfl, _, _, hn, hel⟩ := DataW.trod_array Tryd.underlying26 hf
  simp only [c1, Nat.mul_one] at hel
  have hcl : (Value.agg cs).cells.toList = cs.toList := rfl
  rw [hcl] at hel
  have key : ∀ i (hi : i < cs.toList.length), ∃ k : Int, cs.toList[i] = .int .u8 k ∧ 0 ≤ k ∧ k < 256 := by
    intro i hi
    have hi2 : i < 32 := by rw [← hsz]; simpa using hi
    have h1 := hel i hi2
    rw [List.getElem?_eq_getElem (show i < xs.length by omega)] at h1
    obtain ⟨k, e1, _, hw⟩ := DataW.trod_int Tryd.underlying5 h1
    have : ((cs.toList.drop i).take 1) = [cs.toList[i]] := by
      rw [List.drop_eq_getElem_cons hi]
      rfl
    rw [this] at e1
    refine ⟨k, by simpa using e1, ?_⟩
    simp [Lit.wf, IntKind.min, IntKind.max, IntKind.signed, IntKind.bits] at hw
    omega
  refine ⟨cs.toList.map ofCell, ?_, by rw [List.length_map]; simpa using hsz, ?_⟩
  · have : b8 (cs.toList.map ofCell) = cs.toList := by
      apply List.ext_getElem
      · simp [b8]
      · intro i h1 h2
        obtain ⟨k, e, _⟩ := key i h2
        simp only [b8, List.getElem_map]
        rw [e]
        rfl
    rw [this]
  · intro x hx
    obtain ⟨c, hc, rfl⟩ := List.mem_map.1 hx
    obtain ⟨i, hi, rfl⟩ := List.getElem_of_mem hc
    obtain ⟨k, e, h0, h1⟩ := key i hi
    rw [e]
    exact ⟨h0, h1⟩
end BlkW
end Go.Proofs.YtfmegeibnjmfpaaDoor
