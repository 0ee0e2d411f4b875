/-
  Facts of the program that the row of CommitBack names: reckoned by the kernel.
-/
import Derived.Test.YthcemghamdmjmaaRows
import Derived.Test.YthcemghamdmjmaaChecked
import Derived.ProofKit
namespace Go.Proofs.Ythcemghamdmjmaa
open Go.RowKit
namespace commitBackFact
theorem named : Try.pinned.checked.prog.funcNamed Rows.commitBackRow.func = some 14 := by kernel_rfl
set_option maxRecDepth 100000 in
theorem closed : joinedFacts Try.pinned.checked.prog 14 Try.f14 Rows.commitBackSpec Rows.commitBackRow = true := by kernel_rfl
end commitBackFact
end Go.Proofs.Ythcemghamdmjmaa
