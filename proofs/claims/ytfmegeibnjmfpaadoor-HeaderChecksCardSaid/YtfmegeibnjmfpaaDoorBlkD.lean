/-
  A round, of package blake: eight mixings with the words of a row.
-/
import Derived.Test.YtfmegeibnjmfpaaDoorBlkC
namespace Go.Proofs.YtfmegeibnjmfpaaDoor
namespace BlkD
open Go.RowKit
open BlkM BlkA BlkC
theorem rd_w {w w1 : World} {V S : Nat} {T : TypeId} {cs : List Value} {s : List Int} (h : Chg w V cs w1) (k : At w S T (w32 s)) (ne : S ≠ V) (i : Nat) (hi : i < s.length) : w1.cell? ⟨S, i, none⟩ = some (.int .u32 (s.getD i 0)) := by
  rw [(h.other k ne).cell, w32_get s i hi]
set_option maxRecDepth 10000 in
set_option maxHeartbeats 1000000 in
theorem round_any (w : World) (V S : Nat) (v s : List Int) (T T2 : TypeId) (hv : At w V T (w32 v)) (hs : At w S T2 (w32 s)) (hne : S ≠ V) (lv : v.length = 16) (ls : s.length = 16) :
    Calls Tryd.prog 108 #[.pointer (some ⟨V, 0, none⟩), .pointer (some ⟨S, 0, none⟩)] w fun e w' => e = .returned (.tuple #[]) ∧ Chg w V (w32 (roundL v s)) w' := by
  have HC := hide (show Chg w V (w32 (BlkM.part v s 0)) w from Chg.self hv (Below.refl _ _))
  have HV := hide hv
  have HS := hide hs
  have LV := hide (fun n => (BlkM.part_len v s n).trans lv)
  have LS := hide ls
  have d0 : w.cell? ⟨S, 0, none⟩ = some (.int .u32 (s.getD 0 0)) := by rw [hs.cell, w32_get s 0 (by omega)]
  have d1 : w.cell? ⟨S, 1, none⟩ = some (.int .u32 (s.getD 1 0)) := by rw [hs.cell, w32_get s 1 (by omega)]
  clear hv hs lv ls
  go_enter Tryd.func108, Tryd.ntmps108
  go_wp2_with fail
  go_still_tail 20, (by kernel_rfl)
  go_wp2_with ((go_at_call 119; refine (mix_any _ V 0 4 8 12 (BlkM.part v s 0) _ _ T (by exact HC.out.at HV.out) (by rw [LV.out]; omega) (by rw [LV.out]; omega) (by rw [LV.out]; omega) (by rw [LV.out]; omega) (by omega) (by omega) (by omega) (by omega) (by omega) (by omega)).mono ?_; rintro e w1 ⟨rfl, h1⟩))
  have HC1 := hide (show Chg w V (w32 (BlkM.part v s 1)) w1 from Chg.trans HC.out.drew (by exact h1))
  clear HC d0 d1 h1
  have HC := hide HC1.out
  clear HC1
  have d0 := rd_w HC.out HS.out hne 2 (by rw [LS.out]; omega)
  have d1 := rd_w HC.out HS.out hne 3 (by rw [LS.out]; omega)
  go_still_tail 20, (by kernel_rfl)
  go_wp2_with ((go_at_call 119; refine (mix_any _ V 1 5 9 13 (BlkM.part v s 1) _ _ T (by exact HC.out.at HV.out) (by rw [LV.out]; omega) (by rw [LV.out]; omega) (by rw [LV.out]; omega) (by rw [LV.out]; omega) (by omega) (by omega) (by omega) (by omega) (by omega) (by omega)).mono ?_; rintro e w1 ⟨rfl, h1⟩))
  have HC2 := hide (show Chg w V (w32 (BlkM.part v s 2)) w1 from Chg.trans HC.out.drew (by exact h1))
  clear HC d0 d1 h1
  have HC := hide HC2.out
  clear HC2
  have d0 := rd_w HC.out HS.out hne 4 (by rw [LS.out]; omega)
  have d1 := rd_w HC.out HS.out hne 5 (by rw [LS.out]; omega)
  go_still_tail 20, (by kernel_rfl)
  go_wp2_with ((go_at_call 119; refine (mix_any _ V 2 6 10 14 (BlkM.part v s 2) _ _ T (by exact HC.out.at HV.out) (by rw [LV.out]; omega) (by rw [LV.out]; omega) (by rw [LV.out]; omega) (by rw [LV.out]; omega) (by omega) (by omega) (by omega) (by omega) (by omega) (by omega)).mono ?_; rintro e w1 ⟨rfl, h1⟩))
  have HC3 := hide (show Chg w V (w32 (BlkM.part v s 3)) w1 from Chg.trans HC.out.drew (by exact h1))
  clear HC d0 d1 h1
  have HC := hide HC3.out
  clear HC3
  have d0 := rd_w HC.out HS.out hne 6 (by rw [LS.out]; omega)
  have d1 := rd_w HC.out HS.out hne 7 (by rw [LS.out]; omega)
  go_still_tail 20, (by kernel_rfl)
  go_wp2_with ((go_at_call 119; refine (mix_any _ V 3 7 11 15 (BlkM.part v s 3) _ _ T (by exact HC.out.at HV.out) (by rw [LV.out]; omega) (by rw [LV.out]; omega) (by rw [LV.out]; omega) (by rw [LV.out]; omega) (by omega) (by omega) (by omega) (by omega) (by omega) (by omega)).mono ?_; rintro e w1 ⟨rfl, h1⟩))
  have HC4 := hide (show Chg w V (w32 (BlkM.part v s 4)) w1 from Chg.trans HC.out.drew (by exact h1))
  clear HC d0 d1 h1
  have HC := hide HC4.out
  clear HC4
  have d0 := rd_w HC.out HS.out hne 8 (by rw [LS.out]; omega)
  have d1 := rd_w HC.out HS.out hne 9 (by rw [LS.out]; omega)
  go_still_tail 20, (by kernel_rfl)
  go_wp2_with ((go_at_call 119; refine (mix_any _ V 0 5 10 15 (BlkM.part v s 4) _ _ T (by exact HC.out.at HV.out) (by rw [LV.out]; omega) (by rw [LV.out]; omega) (by rw [LV.out]; omega) (by rw [LV.out]; omega) (by omega) (by omega) (by omega) (by omega) (by omega) (by omega)).mono ?_; rintro e w1 ⟨rfl, h1⟩))
  have HC5 := hide (show Chg w V (w32 (BlkM.part v s 5)) w1 from Chg.trans HC.out.drew (by exact h1))
  clear HC d0 d1 h1
  have HC := hide HC5.out
  clear HC5
  have d0 := rd_w HC.out HS.out hne 10 (by rw [LS.out]; omega)
  have d1 := rd_w HC.out HS.out hne 11 (by rw [LS.out]; omega)
  go_still_tail 20, (by kernel_rfl)
  go_wp2_with ((go_at_call 119; refine (mix_any _ V 1 6 11 12 (BlkM.part v s 5) _ _ T (by exact HC.out.at HV.out) (by rw [LV.out]; omega) (by rw [LV.out]; omega) (by rw [LV.out]; omega) (by rw [LV.out]; omega) (by omega) (by omega) (by omega) (by omega) (by omega) (by omega)).mono ?_; rintro e w1 ⟨rfl, h1⟩))
  have HC6 := hide (show Chg w V (w32 (BlkM.part v s 6)) w1 from Chg.trans HC.out.drew (by exact h1))
  clear HC d0 d1 h1
  have HC := hide HC6.out
  clear HC6
  have d0 := rd_w HC.out HS.out hne 12 (by rw [LS.out]; omega)
  have d1 := rd_w HC.out HS.out hne 13 (by rw [LS.out]; omega)
  go_still_tail 20, (by kernel_rfl)
  go_wp2_with ((go_at_call 119; refine (mix_any _ V 2 7 8 13 (BlkM.part v s 6) _ _ T (by exact HC.out.at HV.out) (by rw [LV.out]; omega) (by rw [LV.out]; omega) (by rw [LV.out]; omega) (by rw [LV.out]; omega) (by omega) (by omega) (by omega) (by omega) (by omega) (by omega)).mono ?_; rintro e w1 ⟨rfl, h1⟩))
  have HC7 := hide (show Chg w V (w32 (BlkM.part v s 7)) w1 from Chg.trans HC.out.drew (by exact h1))
  clear HC d0 d1 h1
  have HC := hide HC7.out
  clear HC7
  have d0 := rd_w HC.out HS.out hne 14 (by rw [LS.out]; omega)
  have d1 := rd_w HC.out HS.out hne 15 (by rw [LS.out]; omega)
  go_still_tail 20, (by kernel_rfl)
  go_wp2_with ((go_at_call 119; refine (mix_any _ V 3 4 9 14 (BlkM.part v s 7) _ _ T (by exact HC.out.at HV.out) (by rw [LV.out]; omega) (by rw [LV.out]; omega) (by rw [LV.out]; omega) (by rw [LV.out]; omega) (by omega) (by omega) (by omega) (by omega) (by omega) (by omega)).mono ?_; rintro e w1 ⟨rfl, h1⟩))
  go_end0
  exact ⟨rfl, Chg.trans HC.out.drew (by exact h1)⟩
end BlkD
end Go.Proofs.YtfmegeibnjmfpaaDoor
