/-
  Facts of the program that the row of CommitDecodes names: reckoned by the kernel.
-/
import Derived.Test.YthcemghamdmjmaaRows
import Derived.Test.YthcemghamdmjmaaChecked
import Derived.ProofKit
namespace Go.Proofs.Ythcemghamdmjmaa
open Go.RowKit
namespace commitDecodesFact
theorem named : Try.pinned.checked.prog.funcNamed Rows.commitDecodesRow.func = some 12 := by kernel_rfl
set_option maxRecDepth 100000 in
theorem closed : joinedFacts Try.pinned.checked.prog 12 Try.f12 Rows.commitDecodesSpec Rows.commitDecodesRow = true := by kernel_rfl
end commitDecodesFact
end Go.Proofs.Ythcemghamdmjmaa
