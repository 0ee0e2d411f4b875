/-
  HexM, BlkL, BlkO, BlkP, BlkR, BlkW, in one text.
-/
import Derived.Laws.BytesArg
import Derived.Lib.Bytealg
import Derived.Test.YtpambhlhkmkagaaGreatDoorPvB
import Derived.OneCell
import Derived.Stop.FmtRuneSmall
import Derived.Lib.BytesEntry
import Derived.ChangeKeysEq
import Derived.Test.YtpambhlhkmkagaaGreatDoorBlkM
import Derived.Test.YtpambhlhkmkagaaGreatDoorBlkA
import Derived.Test.YtpambhlhkmkagaaGreatDoorBlkC
import Derived.Test.YtpambhlhkmkagaaGreatDoorPvA
import Derived.Test.YtpambhlhkmkagaaGreatDoorBlkG
import Derived.Test.YtpambhlhkmkagaaGreatDoorRows
import Derived.ProofKit
import Derived.LaidMore
import Derived.OpenShut
import Derived.Stop.Joined
namespace Go.Proofs.YtpambhlhkmkagaaGreatDoor
namespace HexM
open Go

/-- A digit, as a number. -/
def hexd (d : Nat) : Int := if d < 10 then 48 + d else 87 + d
end HexM
end Go.Proofs.YtpambhlhkmkagaaGreatDoor

namespace Go.Proofs.YtpambhlhkmkagaaGreatDoor
namespace BlkL
open Go.RowKit
open BlkM BlkA BlkI BlkJ BlkK HexM

/-! ### The text of a hash -/
def hi (x : Int) : Int := hexd (x.toNat / 16)
end BlkL
end Go.Proofs.YtpambhlhkmkagaaGreatDoor

namespace Go.Proofs.YtpambhlhkmkagaaGreatDoor
namespace BlkO
open Go.RowKit
open BlkM BlkA BlkE BlkF BlkG BlkI BlkJ BlkK BlkL HexM

/-- What a func returns that keeps its first result in a row, its second in a slot. -/
theorem retRow2 {P : Program} {w : World} {g : Nat} {T : TypeId} {cs : List Value} (hg : At w g T cs) {fn : Func} {p u : Tmp} {ty : TypeId} (h : fn.results = #[.cell p ty, .tmp u]) (tmps : Array Value) (hp : tmps.getD p undef = .pointer (some ⟨g, 0, none⟩)) (v : Value) (hv : tmps.getD u undef = v)
    (d : TypeDesc) (n : Nat) (hu : P.underlying ty = some d) (hd : (match d with | .struct _ | .array _ _ => true | _ => false) = true) (hi : (P.info? ty).map (·.size) = some n) (hn : cs.length = n) :
    (results fn tmps).run P w = .ok (.tuple #[.agg cs.toArray, v]) w := by
  rw [results_cell_tmp h, hp, hv]
  simp only [asAddr, Sem.run_pure, Result.andThen]
  rw [run_loadVar_row w g T ty cs.toArray (0, 0) d hg hu hd (by rw [hi, ← hn]; simp)]

/-! ### The digits of a text -/
def zH : List Int := List.replicate 32 0
/-! ### A state's Sum -/
end BlkO
end Go.Proofs.YtpambhlhkmkagaaGreatDoor

namespace Go.Proofs.YtpambhlhkmkagaaGreatDoor
namespace BlkP
open Go.RowKit Go.Lib
open BlkM BlkA BlkI BlkJ BlkK BlkL BlkO

theorem part8 (l : List Int) (i : Nat) (h : i < l.length) (W : World) : (part 5 (b8 l).toArray (i * 1)).run Tryz.prog W = .ok (.int .u8 (l.getD i 0)) W := by
  have hg := b8_get l i h
  have hb : i < (b8 l).length := by rw [b8_len]; exact h
  rw [List.getElem?_eq_getElem hb] at hg
  have h1 : (b8 l)[i] = Value.int .u8 (l.getD i 0) := Option.some.inj hg
  have ha : (isAgg 5).run Tryz.prog W = .ok false W := by kernel_rfl
  simp [part, Sem.run_bind, ha, hb, h1]
theorem eqItems8 (l m : List Int) (hl : l.length = 32) (hm : m.length = 32) (d : Nat) (W : World) : ∀ is : List Nat, (∀ i ∈ is, i < 32) →
    (Op.eqItems (d + 1) 5 1 (b8 l).toArray (b8 m).toArray is).run Tryz.prog W = .ok (decide (∀ i ∈ is, l.getD i 0 = m.getD i 0)) W
  | [], _ => by simp [Op.eqItems]
  | i :: is, h => by
    have h1 := part8 l i (by rw [hl]; exact h i (by simp)) W
    have h2 := part8 m i (by rw [hm]; exact h i (by simp)) W
    have h3 := eqItems8 l m hl hm d W is (fun j hj => h j (by simp [hj]))
    have h4 : (Op.equalIn (d + 1) 5 (.int .u8 (l.getD i 0)) (.int .u8 (m.getD i 0))).run Tryz.prog W = .ok (l.getD i 0 == m.getD i 0) W := by
      simp [Op.equalIn, run_underlying Tryz.underlying5]
    simp only [Op.eqItems, Sem.run_bind, h1, h2, h4, Result.andThen_ok]
    by_cases e : l.getD i 0 = m.getD i 0
    · have hiff : (∀ j ∈ i :: is, l.getD j 0 = m.getD j 0) ↔ (∀ j ∈ is, l.getD j 0 = m.getD j 0) := ⟨fun h j hj => h j (List.mem_cons_of_mem _ hj), fun h j hj => (List.mem_cons.1 hj).elim (fun x => by rw [x]; exact e) (h j)⟩
      rw [show (l.getD i 0 == m.getD i 0) = true from beq_iff_eq.2 e]
      simp only [Bool.not_true, Bool.false_eq_true, if_false, h3, hiff]
    · have e2 : (l.getD i 0 == m.getD i 0) = false := by simpa using e
      have hf : ¬ (∀ j ∈ i :: is, l.getD j 0 = m.getD j 0) := fun h => e (h i (List.mem_cons_self))
      rw [e2, decide_eq_false hf]
      simp
theorem ext32 {l m : List Int} (hl : l.length = 32) (hm : m.length = 32) : (∀ i ∈ List.range 32, l.getD i 0 = m.getD i 0) ↔ l = m := by
  constructor
  · intro h
    apply List.ext_getElem (by omega)
    intro i h1 h2
    have := h i (List.mem_range.2 (by omega))
    rw [List.getD_eq_getElem?_getD, List.getElem?_eq_getElem h1, List.getD_eq_getElem?_getD, List.getElem?_eq_getElem h2] at this
    exact this
  · rintro rfl i _
    rfl
theorem eqH (l m : List Int) (hl : l.length = 32) (hm : m.length = 32) (W : World) : (binOp .eql 39 (.agg (b8 l).toArray) (.agg (b8 m).toArray)).run Tryz.prog W = .ok (.bool (decide (l = m))) W := by
  have hi : (Tryz.prog.info? 5).isSome = true := by kernel_rfl
  obtain ⟨i, hi⟩ := Option.isSome_iff_exists.1 hi
  have hc : Tryz.prog.cellsOf 5 = 1 := by kernel_rfl
  have h : (Op.equalIn (9998 + 1 + 1) 39 (.agg (b8 l).toArray) (.agg (b8 m).toArray)).run Tryz.prog W = .ok (decide (l = m)) W := by
    rw [run_equalIn_array W (9998 + 1) (b8 l).toArray (b8 m).toArray Tryz.underlying39 hi, hc, eqItems8 l m hl hm 9998 W (List.range 32) (fun i hi => List.mem_range.1 hi)]
    simp only [ext32 hl hm]
  simp only [binOp]
  simp [Op.equal, Op.maxDepth, h]
end BlkP
end Go.Proofs.YtpambhlhkmkagaaGreatDoor

namespace Go.Proofs.YtpambhlhkmkagaaGreatDoor
namespace BlkR
open Go.RowKit
open BlkM BlkA BlkG BlkI BlkJ BlkK BlkL BlkO BlkP

theorem alH (a : Operand → Value) (o : Oper) (ho : o.op = Op.alloc 39) (W : World) : (execOp a o).run Tryz.prog W = .ok (.value (.pointer (some ⟨W.heap.size, 0, none⟩))) (W.alloc (.cells (b8 zH).toArray 39)) := by
  unfold execOp
  rw [ho]
  kernel_rfl
end BlkR
end Go.Proofs.YtpambhlhkmkagaaGreatDoor

namespace Go.Proofs.YtpambhlhkmkagaaGreatDoor
namespace BlkW
open Go.ChangeShapes Go.WideShapes Go.ChangeAt Go.RowKit
open BlkM BlkG BlkI BlkK
theorem own : ownKnob Tryz.prog.godebug = none := by kernel_rfl
theorem laidOut : laidOutB Tryz.prog = true := by kernel_rfl
theorem gIni : Tryz.prog.globalNamed "landfall/blake.initial" = some 0 := by kernel_rfl
theorem tIni : (Tryz.prog.globals[0]?).map (·.type) = some 98 := by kernel_rfl
/-- The one listed variable. -/
def laid1 {H : Type} : List (String × DataW H) := [("landfall/blake.initial", Rows.laid_landfall_blake_initial)]
theorem door_met (os : Os) (args : Array Value) : laidMetH Tryz.prog laid1 ((World.doorLaid Tryz.prog 400 os).forCall (fun _ _ => 0) ⟨#[], args, []⟩).memory :=
  laidMetH_of_parts3 (fuel := 8) (laidMet_of_run' 8 (by kernel_rfl) (by kernel_rfl)) (by kernel_rfl) (by kernel_rfl)
theorem glob_of_laid {W : World} (h : laidMetH Tryz.prog laid1 W) : Glob W := by
  rw [MakeChecks.laidMetH_plain _ _ _ (by kernel_rfl)] at h
  obtain ⟨ps, ⟨g0, t0, cs0, f0, p0, q0, hg0, ht0, hv0, hd0, _, _⟩, _, _⟩ := h
  obtain rfl := Option.some.inj (gIni.symm.trans hg0)
  obtain rfl := Option.some.inj (tIni.symm.trans ht0)
  obtain ⟨xs, m1, rfl, hx1, hlen, hn3, hel⟩ := DataW.trod_array Tryz.underlying98 hd0
  have c3 : Tryz.prog.cellsOf 97 = 1 := by kernel_rfl
  have c8 : Tryz.prog.cellsOf 98 = 8 := by kernel_rfl
  rw [c8] at hlen
  simp only [c3, Nat.mul_one] at hel
  simp only [Prod.mk.injEq] at hx1
  have hx2 : xs.map (·.1) = [.lit (.int .u32 1779033703), .lit (.int .u32 3144134277), .lit (.int .u32 1013904242), .lit (.int .u32 2773480762), .lit (.int .u32 1359893119), .lit (.int .u32 2600822924), .lit (.int .u32 528734635), .lit (.int .u32 1541459225)] := by
    have := hx1.1
    unfold Rows.laid_landfall_blake_initial at this
    simpa using this.symm
  have key : ∀ i, i < 8 → cs0.toList[i]? = some (.int .u32 (ini.getD i 0)) := by
    intro i hi
    have hxi : i < xs.length := by omega
    have h1 := hel i hi
    rw [List.getElem?_eq_getElem hxi] at h1
    have h2 : (xs.map (·.1))[i]? = some (xs[i].1) := by simp [hxi]
    obtain ⟨k, e1, e2, _⟩ := DataW.trod_int Tryz.underlying97 h1
    have hci : i < cs0.toList.length := by omega
    have e3 : cs0.toList[i] = .int .u32 k := by
      have : ((cs0.toList.drop i).take 1) = [cs0.toList[i]] := by
        rw [List.drop_eq_getElem_cons hci]
        rfl
      rw [this] at e1
      simpa using e1
    have e4 : xs[i].1 = .lit (.int .u32 k) := by rw [e2]
    rw [hx2, e4] at h2
    have e5 : k = ini.getD i 0 := by
      match i, hi with
      | 0, _ => simpa [ini] using h2.symm
      | 1, _ => simpa [ini] using h2.symm
      | 2, _ => simpa [ini] using h2.symm
      | 3, _ => simpa [ini] using h2.symm
      | 4, _ => simpa [ini] using h2.symm
      | 5, _ => simpa [ini] using h2.symm
      | 6, _ => simpa [ini] using h2.symm
      | 7, _ => simpa [ini] using h2.symm
      | n + 8, h => omega
    rw [List.getElem?_eq_getElem hci, e3, e5]
  have hcell : ∀ i, i < 8 → W.cell? ⟨0, i, none⟩ = some (.int .u32 (ini.getD i 0)) := by
    intro i hi
    rw [World.var?_cell hg0 hv0 i]
    have := key i hi
    simpa using this
  refine ⟨?_, hcell⟩
  have h0 := hcell 0 (by omega)
  unfold World.cell? at h0
  rcases Nat.eq_zero_or_pos W.heap.size with h | h
  · have : W.heap[0]? = none := by simp [h]
    simp [this] at h0
  · exact h
/-- Bytes handed in, opened. -/
theorem b_some (W : World) (x : Addr) (l c : Nat) (zs : List Int) (hl : l ≤ c) (hz : zs.length = c) (hcell : ∀ i, i < zs.length → W.cell? (x.add i) = some (.int .u8 (zs.getD i 0))) (hwz : ∀ n ∈ zs, (Lit.int .u8 n).wf = true) :
    BIn W (.slice (some x) l c) (zs.take l) ∧ rng (zs.take l) := by
  have hr : rng zs := fun n hn => by
    have := hwz n hn
    simp [Lit.wf, IntKind.min, IntKind.max, IntKind.signed, IntKind.bits] at this
    omega
  have hlen : (zs.take l).length = l := by rw [List.length_take]; omega
  refine ⟨⟨some x, c, by rw [hlen], by omega, fun hne => ?_⟩, rng_take hr l⟩
  have hpos : 0 < l := by
    rcases Nat.eq_zero_or_pos l with h | h
    · subst h; exact absurd (List.take_zero) hne
    · exact h
  obtain ⟨b, off, rfl, hc⟩ := Go.ints_at hcell (by omega)
  refine ⟨b, off, rfl, ?_, fun i hi => ?_⟩
  · have h0 := hc 0 (by omega)
    unfold World.cell? at h0
    rcases Nat.lt_or_ge b W.heap.size with h | h
    · exact h
    · have : W.heap[b]? = none := by simp [h]
      simp [this] at h0
  · rw [hlen] at hi
    rw [hc i (by omega)]
    simp [List.getD, hi]
/-- A hash handed in, opened. -/
def ofCell : Value → Int | .int _ k => k | _ => 0
set_option maxRecDepth 10000 in
theorem h_open {H : Type} {enc : TypeId × Value → H} {W : World} {base : Nat} {v : Value} {d : DataW H} {p : List MemPlace} (hv : Value.okWide Tryz.prog W .any base 39 v)
    (h : DataW.Trod enc Tryz.prog W 0 (fun _ => true) true 39 v d p) : ∃ l : List Int, v = .agg (b8 l).toArray ∧ l.length = 32 ∧ rng l := by
  simp only [Value.okWide, Tryz.underlying39] at hv
  obtain ⟨cs, rfl, hsz, _⟩ := hv
  have c8 : Tryz.prog.cellsOf 39 = 32 := by kernel_rfl
  have c1 : Tryz.prog.cellsOf 5 = 1 := by kernel_rfl
  rw [c8] at hsz
  obtain ⟨fuel, hf⟩ := h
  obtain ⟨xs, m1, rfl, _, _, hn, hel⟩ := DataW.trod_array Tryz.underlying39 hf
  simp only [c1, Nat.mul_one] at hel
  have hcl : (Value.agg cs).cells.toList = cs.toList := rfl
  rw [hcl] at hel
  have key : ∀ i (hi : i < cs.toList.length), ∃ k : Int, cs.toList[i] = .int .u8 k ∧ 0 ≤ k ∧ k < 256 := by
    intro i hi
    have hi2 : i < 32 := by rw [← hsz]; simpa using hi
    have h1 := hel i hi2
    rw [List.getElem?_eq_getElem (show i < xs.length by omega)] at h1
    obtain ⟨k, e1, _, hw⟩ := DataW.trod_int Tryz.underlying5 h1
    have : ((cs.toList.drop i).take 1) = [cs.toList[i]] := by
      rw [List.drop_eq_getElem_cons hi]
      rfl
    rw [this] at e1
    refine ⟨k, by simpa using e1, ?_⟩
    simp [Lit.wf, IntKind.min, IntKind.max, IntKind.signed, IntKind.bits] at hw
    omega
  refine ⟨cs.toList.map ofCell, ?_, by rw [List.length_map]; simpa using hsz, ?_⟩
  · have : b8 (cs.toList.map ofCell) = cs.toList := by
      apply List.ext_getElem
      · simp [b8]
      · intro i h1 h2
        obtain ⟨k, e, _⟩ := key i h2
        simp only [b8, List.getElem_map]
        rw [e]
        rfl
    rw [this]
  · intro x hx
    obtain ⟨c, hc, rfl⟩ := List.mem_map.1 hx
    obtain ⟨i, hi, rfl⟩ := List.getElem_of_mem hc
    obtain ⟨k, e, h0, h1⟩ := key i hi
    rw [e]
    exact ⟨h0, h1⟩
end BlkW
end Go.Proofs.YtpambhlhkmkagaaGreatDoor

