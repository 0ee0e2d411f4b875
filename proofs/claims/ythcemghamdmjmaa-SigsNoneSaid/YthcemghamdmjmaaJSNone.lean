/-
  Facts of the program that the row of SigsNone names: reckoned by the kernel.
-/
import Derived.Test.YthcemghamdmjmaaRows
import Derived.Test.YthcemghamdmjmaaChecked
import Derived.ProofKit
namespace Go.Proofs.Ythcemghamdmjmaa
open Go.RowKit
namespace sigsNoneFact
theorem named : Try.pinned.checked.prog.funcNamed Rows.sigsNoneRow.func = some 17 := by kernel_rfl
set_option maxRecDepth 100000 in
theorem closed : joinedFacts Try.pinned.checked.prog 17 Try.f17 Rows.sigsNoneSpec Rows.sigsNoneRow = true := by kernel_rfl
end sigsNoneFact
end Go.Proofs.Ythcemghamdmjmaa
