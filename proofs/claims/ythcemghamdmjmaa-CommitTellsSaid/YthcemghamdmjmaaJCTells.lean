/-
  Facts of the program that the row of CommitTells names: reckoned by the kernel.
-/
import Derived.Test.YthcemghamdmjmaaRows
import Derived.Test.YthcemghamdmjmaaChecked
import Derived.ProofKit
namespace Go.Proofs.Ythcemghamdmjmaa
open Go.RowKit
namespace commitTellsFact
theorem named : Try.pinned.checked.prog.funcNamed Rows.commitTellsRow.func = some 11 := by kernel_rfl
set_option maxRecDepth 100000 in
theorem closed : joinedFacts Try.pinned.checked.prog 11 Try.f11 Rows.commitTellsSpec Rows.commitTellsRow = true := by kernel_rfl
end commitTellsFact
end Go.Proofs.Ythcemghamdmjmaa
