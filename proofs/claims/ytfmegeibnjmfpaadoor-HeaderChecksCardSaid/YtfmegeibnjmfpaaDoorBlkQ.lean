/-
  The chapter's two hashes, reckoned.
-/
import Derived.Test.YtfmegeibnjmfpaaDoorBlkP
namespace Go.Proofs.YtfmegeibnjmfpaaDoor
namespace BlkQ
open BlkM BlkL BlkO
set_option maxRecDepth 1000000 in
theorem none_text : hashText (sumL []) = (⟨#[54, 57, 50, 49, 55, 97, 51, 48, 55, 57, 57, 48, 56, 48, 57, 52, 101, 49, 49, 49, 50, 49, 100, 48, 52, 50, 51, 53, 52, 97, 55, 99, 49, 102, 53, 53, 98, 54, 52, 56, 50, 99, 97, 49, 97, 53, 49, 101, 49, 98, 50, 53, 48, 100, 102, 100, 49, 101, 100, 48, 101, 101, 102, 57]⟩ : ByteArray) := by kernel_rfl
set_option maxRecDepth 1000000 in
theorem abc_text : hashText (sumL [97, 98, 99]) = (⟨#[53, 48, 56, 99, 53, 101, 56, 99, 51, 50, 55, 99, 49, 52, 101, 50, 101, 49, 97, 55, 50, 98, 97, 51, 52, 101, 101, 98, 52, 53, 50, 102, 51, 55, 52, 53, 56, 98, 50, 48, 57, 101, 100, 54, 51, 97, 50, 57, 52, 100, 57, 57, 57, 98, 52, 99, 56, 54, 54, 55, 53, 57, 56, 50]⟩ : ByteArray) := by kernel_rfl
set_option maxRecDepth 1000000 in
theorem abc_read : rdL (⟨#[53, 48, 56, 99, 53, 101, 56, 99, 51, 50, 55, 99, 49, 52, 101, 50, 101, 49, 97, 55, 50, 98, 97, 51, 52, 101, 101, 98, 52, 53, 50, 102, 51, 55, 52, 53, 56, 98, 50, 48, 57, 101, 100, 54, 51, 97, 50, 57, 52, 100, 57, 57, 57, 98, 52, 99, 56, 54, 54, 55, 53, 57, 56, 50]⟩ : ByteArray) = sumL [97, 98, 99] := by kernel_rfl
set_option maxRecDepth 1000000 in
theorem abc_ok : okS (⟨#[53, 48, 56, 99, 53, 101, 56, 99, 51, 50, 55, 99, 49, 52, 101, 50, 101, 49, 97, 55, 50, 98, 97, 51, 52, 101, 101, 98, 52, 53, 50, 102, 51, 55, 52, 53, 56, 98, 50, 48, 57, 101, 100, 54, 51, 97, 50, 57, 52, 100, 57, 57, 57, 98, 52, 99, 56, 54, 54, 55, 53, 57, 56, 50]⟩ : ByteArray) := ⟨by kernel_rfl, by decide +kernel⟩
end BlkQ
end Go.Proofs.YtfmegeibnjmfpaaDoor
