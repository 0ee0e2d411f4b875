/-
  New; Add on a table that is nil, or that nobody made.
-/
import Derived.Test.YthcemghamdmjmaaSgE
import Derived.Carry
namespace Go.Proofs.Ythcemghamdmjmaa
namespace SgF
open Go.RowKit
open BlkM WirM WirS SgA SgB SgC SgD SgE

local notation "TG" => 213
local notation "TT" => 137
set_option maxRecDepth 20000 in
set_option maxHeartbeats 4000000 in
theorem add_bad (w : World) (p : Option Addr) (x : Sg) (h : Bad w p) :
    Calls Try.prog 87 #[.pointer p, x.val] w fun e w' => e = .returned (.int .i64 1) ∧ Below w.heap.size w w' := by
  have hBX : Below w.heap.size w (w.alloc (.cells x.cells.toArray 132)) := Below.alloc (Below.refl _ _) (Nat.le_refl _) _
  have HV := WirS.hide (valid_bad (w.alloc (.cells x.cells.toArray 132)) p (h.below hBX))
  have HBX := WirS.hide hBX
  clear h hBX
  go_enter Try.func87, Try.ntmps87
  go_upto_region 0 with fail
  refine wp_region_lit ?_
  refine sV (.pointer (some ⟨w.heap.size, 0, none⟩)) (w.alloc (.cells x.cells.toArray 132)) (by kernel_rfl) (by kernel_rfl) ?_
  simp only [Act.put, List.setIfInBounds_toArray, List.set_cons_succ, List.set_cons_zero]
  generalize World.alloc w _ = z at *
  go_wp2_with (go_at_call 177; refine (HV.out).mono ?_; rintro e _ ⟨rfl, rfl⟩)
  go_ret
  exact ⟨rfl, HBX.out⟩
def made (w : World) (m : Int) : World := (w.alloc (.map #[] 0)).alloc (.cells #[.pointer (some ⟨w.heap.size + 1, 0, none⟩), .int .i64 m, .map (some w.heap.size)] TT)
theorem tab_new (w : World) (m : Int) : Tab (made w m) (w.heap.size + 1) w.heap.size m [] := by
  have hs : (w.alloc (.map #[] 0)).heap.size = w.heap.size + 1 := by simp
  refine ⟨?_, ?_, List.nodup_nil, fun x hx => by cases hx⟩
  · have := At.new (w.alloc (.map #[] 0)) TT (tcl (w.heap.size + 1) w.heap.size m)
    rw [hs] at this
    exact this
  · exact (World.ownsMap_made w Try.prog TG (unitElem (H := Unit))).alloc (.cells #[.pointer (some ⟨w.heap.size + 1, 0, none⟩), .int .i64 m, .map (some w.heap.size)] TT)
set_option maxRecDepth 20000 in
set_option maxHeartbeats 4000000 in
theorem new_ok (w : World) (m : Int) (h0 : 0 ≤ m) (h1 : m ≤ 4096) :
    Calls Try.prog 85 #[.int .i64 m] w fun e w' => ∃ X b, e = .returned (.tuple #[.pointer (some ⟨X, 0, none⟩), .int .i64 0]) ∧ Tab w' X b m [] ∧ w.heap.size ≤ X ∧ w.heap.size ≤ b ∧ Below w.heap.size w w' := by
  have d1 : decide (m < 0) = false := decide_eq_false (by omega)
  have d2 : decide (4096 < m) = false := decide_eq_false (by omega)
  have HT := WirS.hide (tab_new w m)
  have HB := WirS.hide (show Below w.heap.size w (made w m) from Below.alloc (Below.alloc (Below.refl _ _) (Nat.le_refl _) _) (by simp) _)
  clear h0 h1
  have hmk : (Instr.makeMap 135 none).run Try.prog w = .ok (.map (some w.heap.size)) (w.alloc (.map #[] 0)) := run_makeMap _ w
  go_enter Try.func85, Try.ntmps85
  go_upto_region 4 with fail
  go_wp2_with fail
  go_ret2
  exact ⟨_, w.heap.size, rfl, HT.out, by omega, Nat.le_refl _, HB.out⟩
end SgF
end Go.Proofs.Ythcemghamdmjmaa
