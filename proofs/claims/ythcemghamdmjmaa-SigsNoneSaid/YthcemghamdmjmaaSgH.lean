/-
  Iterators over a nil map.
-/
import Derived.Test.YthcemghamdmjmaaSgF
import Derived.Test.YthcemghamdmjmaaSeq2
import Derived.OneCell
namespace Go.Proofs.Ythcemghamdmjmaa
namespace SgH
open Go.RowKit
open BlkM WirM WirS SgA SgB SgC SgD

local notation "TM" => 135
theorem range_nil (W : World) : (Instr.range TM (.map none)).run Try.prog W = .ok (.pointer (some ⟨W.heap.size, 0, none⟩)) (W.alloc (.mapIter none 0 #[] 0)) := by
  simp [Instr.range, run_underlying Try.underlying135, Result.andThen, go_sem]
theorem next_nil {W : World} {r : Nat} (h : W.heap[r]? = some (.mapIter none 0 #[] 0)) (ty : TypeId) : (Instr.next (.pointer (some ⟨r, 0, none⟩)) false ty).run Try.prog W = .ok (.tuple #[.bool false]) W := by
  simp [Instr.next, getObj, Sem.run_bind, Sem.run, h, Result.andThen]
set_option maxRecDepth 20000 in
set_option maxHeartbeats 4000000 in
theorem keys1_none (W : World) (l B : Nat) (h : At W B TM [.map none]) :
    Calls Try.prog 245 #[.func (.yield l) #[] #[], .pointer (some ⟨B, 0, none⟩)] W fun e U => (∃ v, e = .returned v) ∧ Below W.heap.size W U := by
  have c0 : W.cell? ⟨B, 0, none⟩ = some (.map none) := h.cell 0
  have hrn := range_nil W
  have HN := WirS.hide (fun ty => next_nil (W := W.alloc (.mapIter none 0 #[] 0)) (r := W.heap.size) (World.alloc_heap_new W _) ty)
  have HB := WirS.hide (show Below W.heap.size W (W.alloc (.mapIter none 0 #[] 0)) from Below.alloc (Below.refl _ _) (Nat.le_refl _) _)
  clear h
  go_enter Try.func245, Try.ntmps245
  go_upto_region 1 with fail
  generalize W.alloc _ = W1 at *
  clear hrn c0
  go_loopw [6] (fun _ wr => wr = W1) (fun _ _ => 0)
  case atStart => rfl
  case round =>
    subst hrel
    have hn := HN.out
    go_wp2_with fail
    go_end0
    exact ⟨⟨_, rfl⟩, HB.out⟩
end SgH
end Go.Proofs.Ythcemghamdmjmaa
