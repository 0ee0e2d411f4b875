/-
  The words' operations: a word turned, and mixing, of package blake and of the document's answer.
-/
import Derived.Test.YtpambhlhkmkagaaGreatDoorChecked
import Derived.Test.YtpambhlhkmkagaaGreatDoorBlkM
import Derived.WalkKit
import Derived.WalkSpells
import Derived.WalkLawsBesides
import Derived.BigQuiet
import Derived.BigRegion
import Derived.RegionTactic
import Derived.ChangeAlike
import Derived.Deep.QuietTactic
import Derived.StillTailTactics
import Derived.Deep.RegionHeld3
import Derived.Deep.DeepCutAuto
import Derived.Deep.DrawnRows
namespace Go.Proofs.YtpambhlhkmkagaaGreatDoor
namespace BlkA
open Go.RowKit
open BlkM
theorem hide {p : Prop} (h : p) : Hid p := h

set_option maxHeartbeats 400000 in
theorem rl16 (x : Int) (w : World) : Calls Tryz.prog 102 #[.int .u32 x, .int .i64 (-16)] w fun e w' => e = .returned (.int .u32 (rt 16 x)) ∧ w = w' := by
  have h1 : bits .and .u64 (IntKind.u64.wrap (-16)) 31 = 16 := by kernel_rfl
  have h2 : bits .and .u64 18446744073709551600 31 = 16 := by kernel_rfl
  go_enter Tryz.func102, Tryz.ntmps102
  go_wp2
  go_ret
  refine ⟨?_, rfl⟩
  unfold rt
  rw [BlkM.or_comm]
  rfl
set_option maxHeartbeats 400000 in
theorem turn16 (x : Int) (w : World) : Calls Tryz.prog 97 #[.int .u32 x, .int .u64 16] w fun e w' => e = .returned (.int .u32 (rt 16 x)) ∧ w = w' := by
  go_enter Tryz.func97, Tryz.ntmps97
  go_wp2
  go_ret
  exact ⟨rfl, rfl⟩
set_option maxHeartbeats 400000 in
theorem rl12 (x : Int) (w : World) : Calls Tryz.prog 102 #[.int .u32 x, .int .i64 (-12)] w fun e w' => e = .returned (.int .u32 (rt 12 x)) ∧ w = w' := by
  have h1 : bits .and .u64 (IntKind.u64.wrap (-12)) 31 = 20 := by kernel_rfl
  have h2 : bits .and .u64 18446744073709551604 31 = 20 := by kernel_rfl
  go_enter Tryz.func102, Tryz.ntmps102
  go_wp2
  go_ret
  refine ⟨?_, rfl⟩
  unfold rt
  rw [BlkM.or_comm]
  rfl
set_option maxHeartbeats 400000 in
theorem turn12 (x : Int) (w : World) : Calls Tryz.prog 97 #[.int .u32 x, .int .u64 12] w fun e w' => e = .returned (.int .u32 (rt 12 x)) ∧ w = w' := by
  go_enter Tryz.func97, Tryz.ntmps97
  go_wp2
  go_ret
  exact ⟨rfl, rfl⟩
set_option maxHeartbeats 400000 in
theorem rl8 (x : Int) (w : World) : Calls Tryz.prog 102 #[.int .u32 x, .int .i64 (-8)] w fun e w' => e = .returned (.int .u32 (rt 8 x)) ∧ w = w' := by
  have h1 : bits .and .u64 (IntKind.u64.wrap (-8)) 31 = 24 := by kernel_rfl
  have h2 : bits .and .u64 18446744073709551608 31 = 24 := by kernel_rfl
  go_enter Tryz.func102, Tryz.ntmps102
  go_wp2
  go_ret
  refine ⟨?_, rfl⟩
  unfold rt
  rw [BlkM.or_comm]
  rfl
set_option maxHeartbeats 400000 in
theorem turn8 (x : Int) (w : World) : Calls Tryz.prog 97 #[.int .u32 x, .int .u64 8] w fun e w' => e = .returned (.int .u32 (rt 8 x)) ∧ w = w' := by
  go_enter Tryz.func97, Tryz.ntmps97
  go_wp2
  go_ret
  exact ⟨rfl, rfl⟩
set_option maxHeartbeats 400000 in
theorem rl7 (x : Int) (w : World) : Calls Tryz.prog 102 #[.int .u32 x, .int .i64 (-7)] w fun e w' => e = .returned (.int .u32 (rt 7 x)) ∧ w = w' := by
  have h1 : bits .and .u64 (IntKind.u64.wrap (-7)) 31 = 25 := by kernel_rfl
  have h2 : bits .and .u64 18446744073709551609 31 = 25 := by kernel_rfl
  go_enter Tryz.func102, Tryz.ntmps102
  go_wp2
  go_ret
  refine ⟨?_, rfl⟩
  unfold rt
  rw [BlkM.or_comm]
  rfl
set_option maxHeartbeats 400000 in
theorem turn7 (x : Int) (w : World) : Calls Tryz.prog 97 #[.int .u32 x, .int .u64 7] w fun e w' => e = .returned (.int .u32 (rt 7 x)) ∧ w = w' := by
  go_enter Tryz.func97, Tryz.ntmps97
  go_wp2
  go_ret
  exact ⟨rfl, rfl⟩
theorem ad3 (A B x : Int) : (A + (B + x)) % 4294967296 = ad A (ad B x) := by
  unfold ad; rw [IntKind.wrap_u32, IntKind.wrap_u32]; omega
theorem ad3' (A B x : Int) : (A + B + x) % 4294967296 = ad A (ad B x) := by
  unfold ad; rw [IntKind.wrap_u32, IntKind.wrap_u32]; omega
theorem ad2 (A B : Int) : (A + B) % 4294967296 = ad A B := by
  unfold ad; rw [IntKind.wrap_u32]
theorem cell_same (w : World) (p : Addr) (y x : Value) (h : w.cell? p = some y) : (w.setCell p x).drew.cell? p = some x := World.cell?_setCell_same _ _ _ h
theorem cell_far (w : World) (V i j : Nat) (x : Value) (r : Option Value) (h : w.cell? ⟨V, j, none⟩ = r) (k : i ≠ j) : (w.setCell ⟨V, i, none⟩ x).drew.cell? ⟨V, j, none⟩ = r := by
  have : (w.setCell ⟨V, i, none⟩ x).cell? ⟨V, j, none⟩ = w.cell? ⟨V, j, none⟩ := World.cell?_setCell_other _ _ _ _ (fun e => k (by cases e; rfl))
  exact this.trans h
end BlkA
end Go.Proofs.YtpambhlhkmkagaaGreatDoor
