/-
  Facts of the program that the row of CommitGrows names: reckoned by the kernel.
-/
import Derived.Test.YthcemghamdmjmaaRows
import Derived.Test.YthcemghamdmjmaaChecked
import Derived.ProofKit
namespace Go.Proofs.Ythcemghamdmjmaa
open Go.RowKit
namespace commitGrowsFact
theorem named : Try.pinned.checked.prog.funcNamed Rows.commitGrowsRow.func = some 15 := by kernel_rfl
set_option maxRecDepth 100000 in
theorem closed : joinedFacts Try.pinned.checked.prog 15 Try.f15 Rows.commitGrowsSpec Rows.commitGrowsRow = true := by kernel_rfl
end commitGrowsFact
end Go.Proofs.Ythcemghamdmjmaa
