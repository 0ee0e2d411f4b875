/-
  No cell of these rows narrows 'for every input' (looked for: loops, veiled, ifaces, maps, wideKeys, modest, calm, conditions, laid).
  DERIVED. THE GIVEN ROWS OF THIS SEAT. 15 by the template 'for every input the law returns true; each argument reads behind the call as it read before'; 0 by the template 'total and deterministic' (their statements: YthcemghamdmjmaaTotals.lean).
  GIVEN WITH THE SEED: the statements are not yours to turn. If you find one false, say at which input.
  Laid BY PROGRAM, IN A SANDBOX (cutbox-rows.mjs): the forced cells as the released guide's own fill.sh prints them over the translation 4c624e5568ed2f72… (all of the seat's roots in one cut). By AI agents, Wed Nov 11 2026. No macro, syntax, notation, axiom, sorry.
-/
import Derived.Test.YthcemghamdmjmaaChecked
import GoSem.Claim
import GoSem.ClaimJoined
import GoSem.ClaimMapViews
import Derived.JoinedTies
import Derived.KernelRfl
namespace Go.Proofs.Ythcemghamdmjmaa
/- THE CELL 'sum', in the pinned program and in every row, IS THE sha256 OF THE DUMP (.gsa) THAT YthcemghamdmjmaaProg.lean LOADS. Nothing in Lean hashes anything: it is a label: what it is worth is what the hold of that sum in a sandbox is worth. -/
noncomputable def Try.pinned : Pinned := { name := "ythcemghamdmjmaa", sum := "4c624e5568ed2f72f23a3bd7702f29ce4f18c1520ffaaa12e30b7903e805ea47", checked := Try.checked }
namespace Rows
def none {H : Type} : Left H := { results := [], args := [] }

/-- 'landfalllaw04.WireWrites': WHATEVER THE INPUT: true; the input reads as it did. -/
def wireWritesSpec : ChangeSpec := { name := "wireWrites", fn := fun _ => fun
  | [d1, d2] => { results := [.lit (.bool true)], args := [d1, d2] }
  | _ => none }
def wireWritesRow : OpenClaim := { program := "ythcemghamdmjmaa", sum := "4c624e5568ed2f72f23a3bd7702f29ce4f18c1520ffaaa12e30b7903e805ea47", func := "landfall/landfalllaw04.WireWrites", spec := "wireWrites", inPlace := ["math.Float64frombits", "math.Float64bits"], unfollowed := true, recurses := true, plainKeys := false, apart := false }
def WireWritesSaid : Prop := wireWritesRow.holds Try.pinned (OpenSpec.ofChange wireWritesSpec)

/-- ITS FALSE NEIGHBOUR: 'it returns false'. Refute it at one input. -/
def wireWritesWrong : ChangeSpec := { name := "wireWrites", fn := fun _ => fun
  | [d1, d2] => { results := [.lit (.bool false)], args := [d1, d2] }
  | _ => none }
def WireWritesWrongFalsely : Prop := wireWritesRow.holds Try.pinned (OpenSpec.ofChange wireWritesWrong)

/-- 'landfalllaw04.WireReads': WHATEVER THE INPUT: true; the input reads as it did. -/
def wireReadsSpec : ChangeSpec := { name := "wireReads", fn := fun _ => fun
  | [d1, d2] => { results := [.lit (.bool true)], args := [d1, d2] }
  | _ => none }
def wireReadsRow : OpenClaim := { program := "ythcemghamdmjmaa", sum := "4c624e5568ed2f72f23a3bd7702f29ce4f18c1520ffaaa12e30b7903e805ea47", func := "landfall/landfalllaw04.WireReads", spec := "wireReads", inPlace := ["math.Float64frombits", "math.Float64bits"], unfollowed := true, recurses := true, plainKeys := false, apart := false }
def WireReadsSaid : Prop := wireReadsRow.holds Try.pinned (OpenSpec.ofChange wireReadsSpec)

/-- ITS FALSE NEIGHBOUR: 'it returns false'. Refute it at one input. -/
def wireReadsWrong : ChangeSpec := { name := "wireReads", fn := fun _ => fun
  | [d1, d2] => { results := [.lit (.bool false)], args := [d1, d2] }
  | _ => none }
def WireReadsWrongFalsely : Prop := wireReadsRow.holds Try.pinned (OpenSpec.ofChange wireReadsWrong)

/-- 'landfalllaw04.WireNone': WHATEVER THE INPUT: true; the input reads as it did. -/
def wireNoneSpec : ChangeSpec := { name := "wireNone", fn := fun _ => fun
  | [d] => { results := [.lit (.bool true)], args := [d] }
  | _ => none }
def wireNoneRow : OpenClaim := { program := "ythcemghamdmjmaa", sum := "4c624e5568ed2f72f23a3bd7702f29ce4f18c1520ffaaa12e30b7903e805ea47", func := "landfall/landfalllaw04.WireNone", spec := "wireNone", inPlace := ["math.Float64frombits", "math.Float64bits"], unfollowed := true, recurses := true, plainKeys := false, apart := false }
def WireNoneSaid : Prop := wireNoneRow.holds Try.pinned (OpenSpec.ofChange wireNoneSpec)

/-- ITS FALSE NEIGHBOUR: 'it returns false'. Refute it at one input. -/
def wireNoneWrong : ChangeSpec := { name := "wireNone", fn := fun _ => fun
  | [d] => { results := [.lit (.bool false)], args := [d] }
  | _ => none }
def WireNoneWrongFalsely : Prop := wireNoneRow.holds Try.pinned (OpenSpec.ofChange wireNoneWrong)

/-- 'landfalllaw04.WireKnown': WHATEVER THE INPUT: true; the input reads as it did. -/
def wireKnownSpec : ChangeSpec := { name := "wireKnown", fn := fun _ => fun
  | [] => { results := [.lit (.bool true)], args := [] }
  | _ => none }
def wireKnownRow : OpenClaim := { program := "ythcemghamdmjmaa", sum := "4c624e5568ed2f72f23a3bd7702f29ce4f18c1520ffaaa12e30b7903e805ea47", func := "landfall/landfalllaw04.WireKnown", spec := "wireKnown", inPlace := ["math.Float64frombits", "math.Float64bits"], unfollowed := true, recurses := true, plainKeys := false, apart := false }
def WireKnownSaid : Prop := wireKnownRow.holds Try.pinned (OpenSpec.ofChange wireKnownSpec)

/-- ITS FALSE NEIGHBOUR: 'it returns false'. Refute it at one input. -/
def wireKnownWrong : ChangeSpec := { name := "wireKnown", fn := fun _ => fun
  | [] => { results := [.lit (.bool false)], args := [] }
  | _ => none }
def WireKnownWrongFalsely : Prop := wireKnownRow.holds Try.pinned (OpenSpec.ofChange wireKnownWrong)

/-- 'landfalllaw04.WireBack': WHATEVER THE INPUT: true; the input reads as it did. -/
def wireBackSpec : ChangeSpec := { name := "wireBack", fn := fun _ => fun
  | [d1, d2] => { results := [.lit (.bool true)], args := [d1, d2] }
  | _ => none }
def wireBackRow : OpenClaim := { program := "ythcemghamdmjmaa", sum := "4c624e5568ed2f72f23a3bd7702f29ce4f18c1520ffaaa12e30b7903e805ea47", func := "landfall/landfalllaw04.WireBack", spec := "wireBack", inPlace := ["math.Float64frombits", "math.Float64bits"], unfollowed := true, recurses := true, plainKeys := false, apart := false }
def WireBackSaid : Prop := wireBackRow.holds Try.pinned (OpenSpec.ofChange wireBackSpec)

/-- ITS FALSE NEIGHBOUR: 'it returns false'. Refute it at one input. -/
def wireBackWrong : ChangeSpec := { name := "wireBack", fn := fun _ => fun
  | [d1, d2] => { results := [.lit (.bool false)], args := [d1, d2] }
  | _ => none }
def WireBackWrongFalsely : Prop := wireBackRow.holds Try.pinned (OpenSpec.ofChange wireBackWrong)

/-- 'landfalllaw04.WireOne': WHATEVER THE INPUT: true; the input reads as it did. -/
def wireOneSpec : ChangeSpec := { name := "wireOne", fn := fun _ => fun
  | [d1, d2] => { results := [.lit (.bool true)], args := [d1, d2] }
  | _ => none }
def wireOneRow : OpenClaim := { program := "ythcemghamdmjmaa", sum := "4c624e5568ed2f72f23a3bd7702f29ce4f18c1520ffaaa12e30b7903e805ea47", func := "landfall/landfalllaw04.WireOne", spec := "wireOne", inPlace := ["math.Float64frombits", "math.Float64bits"], unfollowed := true, recurses := true, plainKeys := false, apart := false }
def WireOneSaid : Prop := wireOneRow.holds Try.pinned (OpenSpec.ofChange wireOneSpec)

/-- ITS FALSE NEIGHBOUR: 'it returns false'. Refute it at one input. -/
def wireOneWrong : ChangeSpec := { name := "wireOne", fn := fun _ => fun
  | [d1, d2] => { results := [.lit (.bool false)], args := [d1, d2] }
  | _ => none }
def WireOneWrongFalsely : Prop := wireOneRow.holds Try.pinned (OpenSpec.ofChange wireOneWrong)

/-- 'landfalllaw05.ValsDecodes': WHATEVER THE INPUT: true; the input reads as it did. -/
def valsDecodesSpec : ChangeSpec := { name := "valsDecodes", fn := fun _ => fun
  | [d] => { results := [.lit (.bool true)], args := [d] }
  | _ => none }
def valsDecodesRow : OpenClaim := { program := "ythcemghamdmjmaa", sum := "4c624e5568ed2f72f23a3bd7702f29ce4f18c1520ffaaa12e30b7903e805ea47", func := "landfall/landfalllaw05.ValsDecodes", spec := "valsDecodes", inPlace := ["internal/bytealg.Compare", "math/bits.Add64"], unfollowed := true, recurses := true, plainKeys := false, apart := false }
def ValsDecodesSaid : Prop := valsDecodesRow.holds Try.pinned (OpenSpec.ofChange valsDecodesSpec)

/-- ITS FALSE NEIGHBOUR: 'it returns false'. Refute it at one input. -/
def valsDecodesWrong : ChangeSpec := { name := "valsDecodes", fn := fun _ => fun
  | [d] => { results := [.lit (.bool false)], args := [d] }
  | _ => none }
def ValsDecodesWrongFalsely : Prop := valsDecodesRow.holds Try.pinned (OpenSpec.ofChange valsDecodesWrong)

/-- 'landfalllaw05.ValsMade': WHATEVER THE INPUT: true; the input reads as it did. -/
def valsMadeSpec : ChangeSpec := { name := "valsMade", fn := fun _ => fun
  | [d1, d2, d3] => { results := [.lit (.bool true)], args := [d1, d2, d3] }
  | _ => none }
def valsMadeRow : OpenClaim := { program := "ythcemghamdmjmaa", sum := "4c624e5568ed2f72f23a3bd7702f29ce4f18c1520ffaaa12e30b7903e805ea47", func := "landfall/landfalllaw05.ValsMade", spec := "valsMade", inPlace := ["internal/bytealg.Compare", "math/bits.Add64"], unfollowed := true, recurses := true, plainKeys := false, apart := false }
def ValsMadeSaid : Prop := valsMadeRow.holds Try.pinned (OpenSpec.ofChange valsMadeSpec)

/-- ITS FALSE NEIGHBOUR: 'it returns false'. Refute it at one input. -/
def valsMadeWrong : ChangeSpec := { name := "valsMade", fn := fun _ => fun
  | [d1, d2, d3] => { results := [.lit (.bool false)], args := [d1, d2, d3] }
  | _ => none }
def ValsMadeWrongFalsely : Prop := valsMadeRow.holds Try.pinned (OpenSpec.ofChange valsMadeWrong)

/-- 'landfalllaw07.CommitTells': WHATEVER THE INPUT: true; the input reads as it did. -/
def commitTellsSpec : ChangeSpec := { name := "commitTells", fn := fun _ => fun
  | [d1, d2, d3] => { results := [.lit (.bool true)], args := [d1, d2, d3] }
  | _ => none }
def commitTellsRow : OpenClaim := { program := "ythcemghamdmjmaa", sum := "4c624e5568ed2f72f23a3bd7702f29ce4f18c1520ffaaa12e30b7903e805ea47", func := "landfall/landfalllaw07.CommitTells", spec := "commitTells", inPlace := ["slices.overlaps[landfall/api.Vote]"], unfollowed := true, recurses := true, plainKeys := false, apart := false }
def CommitTellsSaid : Prop := commitTellsRow.holds Try.pinned (OpenSpec.ofChange commitTellsSpec)

/-- ITS FALSE NEIGHBOUR: 'it returns false'. Refute it at one input. -/
def commitTellsWrong : ChangeSpec := { name := "commitTells", fn := fun _ => fun
  | [d1, d2, d3] => { results := [.lit (.bool false)], args := [d1, d2, d3] }
  | _ => none }
def CommitTellsWrongFalsely : Prop := commitTellsRow.holds Try.pinned (OpenSpec.ofChange commitTellsWrong)

/-- 'landfalllaw07.CommitDecodes': WHATEVER THE INPUT: true; the input reads as it did. -/
def commitDecodesSpec : ChangeSpec := { name := "commitDecodes", fn := fun _ => fun
  | [d] => { results := [.lit (.bool true)], args := [d] }
  | _ => none }
def commitDecodesRow : OpenClaim := { program := "ythcemghamdmjmaa", sum := "4c624e5568ed2f72f23a3bd7702f29ce4f18c1520ffaaa12e30b7903e805ea47", func := "landfall/landfalllaw07.CommitDecodes", spec := "commitDecodes", inPlace := ["slices.overlaps[landfall/api.Vote]"], unfollowed := true, recurses := true, plainKeys := false, apart := false }
def CommitDecodesSaid : Prop := commitDecodesRow.holds Try.pinned (OpenSpec.ofChange commitDecodesSpec)

/-- ITS FALSE NEIGHBOUR: 'it returns false'. Refute it at one input. -/
def commitDecodesWrong : ChangeSpec := { name := "commitDecodes", fn := fun _ => fun
  | [d] => { results := [.lit (.bool false)], args := [d] }
  | _ => none }
def CommitDecodesWrongFalsely : Prop := commitDecodesRow.holds Try.pinned (OpenSpec.ofChange commitDecodesWrong)

/-- 'landfalllaw07.CommitKnown': WHATEVER THE INPUT: true; the input reads as it did. -/
def commitKnownSpec : ChangeSpec := { name := "commitKnown", fn := fun _ => fun
  | [] => { results := [.lit (.bool true)], args := [] }
  | _ => none }
def commitKnownRow : OpenClaim := { program := "ythcemghamdmjmaa", sum := "4c624e5568ed2f72f23a3bd7702f29ce4f18c1520ffaaa12e30b7903e805ea47", func := "landfall/landfalllaw07.CommitKnown", spec := "commitKnown", inPlace := ["slices.overlaps[landfall/api.Vote]"], unfollowed := true, recurses := true, plainKeys := false, apart := false }
def CommitKnownSaid : Prop := commitKnownRow.holds Try.pinned (OpenSpec.ofChange commitKnownSpec)

/-- ITS FALSE NEIGHBOUR: 'it returns false'. Refute it at one input. -/
def commitKnownWrong : ChangeSpec := { name := "commitKnown", fn := fun _ => fun
  | [] => { results := [.lit (.bool false)], args := [] }
  | _ => none }
def CommitKnownWrongFalsely : Prop := commitKnownRow.holds Try.pinned (OpenSpec.ofChange commitKnownWrong)

/-- 'landfalllaw07.CommitBack': WHATEVER THE INPUT: true; the input reads as it did. -/
def commitBackSpec : ChangeSpec := { name := "commitBack", fn := fun _ => fun
  | [d1, d2, d3] => { results := [.lit (.bool true)], args := [d1, d2, d3] }
  | _ => none }
def commitBackRow : OpenClaim := { program := "ythcemghamdmjmaa", sum := "4c624e5568ed2f72f23a3bd7702f29ce4f18c1520ffaaa12e30b7903e805ea47", func := "landfall/landfalllaw07.CommitBack", spec := "commitBack", inPlace := ["slices.overlaps[landfall/api.Vote]"], unfollowed := true, recurses := true, plainKeys := false, apart := false }
def CommitBackSaid : Prop := commitBackRow.holds Try.pinned (OpenSpec.ofChange commitBackSpec)

/-- ITS FALSE NEIGHBOUR: 'it returns false'. Refute it at one input. -/
def commitBackWrong : ChangeSpec := { name := "commitBack", fn := fun _ => fun
  | [d1, d2, d3] => { results := [.lit (.bool false)], args := [d1, d2, d3] }
  | _ => none }
def CommitBackWrongFalsely : Prop := commitBackRow.holds Try.pinned (OpenSpec.ofChange commitBackWrong)

/-- 'landfalllaw07.CommitGrows': WHATEVER THE INPUT: true; the input reads as it did. -/
def commitGrowsSpec : ChangeSpec := { name := "commitGrows", fn := fun _ => fun
  | [d1, d2, d3] => { results := [.lit (.bool true)], args := [d1, d2, d3] }
  | _ => none }
def commitGrowsRow : OpenClaim := { program := "ythcemghamdmjmaa", sum := "4c624e5568ed2f72f23a3bd7702f29ce4f18c1520ffaaa12e30b7903e805ea47", func := "landfall/landfalllaw07.CommitGrows", spec := "commitGrows", inPlace := ["slices.overlaps[landfall/api.Vote]"], unfollowed := true, recurses := true, plainKeys := false, apart := false }
def CommitGrowsSaid : Prop := commitGrowsRow.holds Try.pinned (OpenSpec.ofChange commitGrowsSpec)

/-- ITS FALSE NEIGHBOUR: 'it returns false'. Refute it at one input. -/
def commitGrowsWrong : ChangeSpec := { name := "commitGrows", fn := fun _ => fun
  | [d1, d2, d3] => { results := [.lit (.bool false)], args := [d1, d2, d3] }
  | _ => none }
def CommitGrowsWrongFalsely : Prop := commitGrowsRow.holds Try.pinned (OpenSpec.ofChange commitGrowsWrong)

/-- 'landfalllaw08.SigsActs': WHATEVER THE INPUT: true; the input reads as it did. -/
def sigsActsSpec : ChangeSpec := { name := "sigsActs", fn := fun _ => fun
  | [d1, d2] => { results := [.lit (.bool true)], args := [d1, d2] }
  | _ => none }
def sigsActsRow : OpenClaim := { program := "ythcemghamdmjmaa", sum := "4c624e5568ed2f72f23a3bd7702f29ce4f18c1520ffaaa12e30b7903e805ea47", func := "landfall/landfalllaw08.SigsActs", spec := "sigsActs", inPlace := ["internal/bytealg.Compare"], unfollowed := true, recurses := true, plainKeys := false, apart := false }
def SigsActsSaid : Prop := sigsActsRow.holds Try.pinned (OpenSpec.ofChange sigsActsSpec)

/-- ITS FALSE NEIGHBOUR: 'it returns false'. Refute it at one input. -/
def sigsActsWrong : ChangeSpec := { name := "sigsActs", fn := fun _ => fun
  | [d1, d2] => { results := [.lit (.bool false)], args := [d1, d2] }
  | _ => none }
def SigsActsWrongFalsely : Prop := sigsActsRow.holds Try.pinned (OpenSpec.ofChange sigsActsWrong)

/-- 'landfalllaw08.SigsNone': WHATEVER THE INPUT: true; the input reads as it did. -/
def sigsNoneSpec : ChangeSpec := { name := "sigsNone", fn := fun _ => fun
  | [d] => { results := [.lit (.bool true)], args := [d] }
  | _ => none }
def sigsNoneRow : OpenClaim := { program := "ythcemghamdmjmaa", sum := "4c624e5568ed2f72f23a3bd7702f29ce4f18c1520ffaaa12e30b7903e805ea47", func := "landfall/landfalllaw08.SigsNone", spec := "sigsNone", inPlace := ["internal/bytealg.Compare"], unfollowed := true, recurses := true, plainKeys := false, apart := false }
def SigsNoneSaid : Prop := sigsNoneRow.holds Try.pinned (OpenSpec.ofChange sigsNoneSpec)

/-- ITS FALSE NEIGHBOUR: 'it returns false'. Refute it at one input. -/
def sigsNoneWrong : ChangeSpec := { name := "sigsNone", fn := fun _ => fun
  | [d] => { results := [.lit (.bool false)], args := [d] }
  | _ => none }
def SigsNoneWrongFalsely : Prop := sigsNoneRow.holds Try.pinned (OpenSpec.ofChange sigsNoneWrong)

/- THE SECOND FORM. 'bulk': how many values and letters a reading holds, each counted each time it is reached (what is shared counts as often as it is met; a slice's spare places count too). A statement '..UptoSaid' is the law's where the arguments, and the package variables that the reading takes, are together of bulk at most 1048576: NARROWER than '..Said'. Prove '..Said' where nothing that the law and all that it calls make is longer than what came in: it says more and counts as full. Else prove '..UptoSaid'. A law counts once. -/
mutual
def uptoBulk {H : Type} : DataW H → Nat
  | .lit (.string bytes) => bytes.length + 1
  | .lit _ => 1
  | .nil => 1
  | .ptr d => uptoBulk d + 1
  | .slice elems spare => uptoBulkAll elems + uptoBulkAll spare + 1
  | .agg parts => uptoBulkAll parts + 1
  | .iface _ d => uptoBulk d + 1
  | .map entries => uptoBulkEntries entries + 1
  | .held _ => 1
def uptoBulkAll {H : Type} : List (DataW H) → Nat
  | [] => 0
  | d :: r => uptoBulk d + uptoBulkAll r
def uptoBulkEntries {H : Type} : List (Lit × DataW H) → Nat
  | [] => 0
  | x :: r => uptoBulkEntry x + uptoBulkEntries r
def uptoBulkEntry {H : Type} : Lit × DataW H → Nat
  | (.string bytes, d) => bytes.length + uptoBulk d + 1
  | (_, d) => uptoBulk d + 1
 end
def uptoSmall : (H : Type) → List (DataW H) → Bool := fun _ ds => decide (uptoBulkAll ds ≤ 1048576)
def OpenSpec.upto (s : _root_.Go.ChangeSpec) : _root_.Go.OpenSpec := { _root_.Go.OpenSpec.ofChange s with cond := some uptoSmall }

/-- 'landfalllaw04.WireWrites', WHERE WHAT IT READS IS OF BULK AT MOST 1048576: true; the input reads as it did. -/
def wireWritesUptoRow : OpenClaim := { program := "ythcemghamdmjmaa", sum := "4c624e5568ed2f72f23a3bd7702f29ce4f18c1520ffaaa12e30b7903e805ea47", func := "landfall/landfalllaw04.WireWrites", spec := "wireWrites", inPlace := ["math.Float64frombits", "math.Float64bits"], unfollowed := true, recurses := true, plainKeys := false, apart := false, narrowed := true }
def WireWritesUptoSaid : Prop := wireWritesUptoRow.holds Try.pinned (OpenSpec.upto wireWritesSpec)

/-- 'landfalllaw04.WireReads', WHERE WHAT IT READS IS OF BULK AT MOST 1048576: true; the input reads as it did. -/
def wireReadsUptoRow : OpenClaim := { program := "ythcemghamdmjmaa", sum := "4c624e5568ed2f72f23a3bd7702f29ce4f18c1520ffaaa12e30b7903e805ea47", func := "landfall/landfalllaw04.WireReads", spec := "wireReads", inPlace := ["math.Float64frombits", "math.Float64bits"], unfollowed := true, recurses := true, plainKeys := false, apart := false, narrowed := true }
def WireReadsUptoSaid : Prop := wireReadsUptoRow.holds Try.pinned (OpenSpec.upto wireReadsSpec)

/-- 'landfalllaw04.WireNone', WHERE WHAT IT READS IS OF BULK AT MOST 1048576: true; the input reads as it did. -/
def wireNoneUptoRow : OpenClaim := { program := "ythcemghamdmjmaa", sum := "4c624e5568ed2f72f23a3bd7702f29ce4f18c1520ffaaa12e30b7903e805ea47", func := "landfall/landfalllaw04.WireNone", spec := "wireNone", inPlace := ["math.Float64frombits", "math.Float64bits"], unfollowed := true, recurses := true, plainKeys := false, apart := false, narrowed := true }
def WireNoneUptoSaid : Prop := wireNoneUptoRow.holds Try.pinned (OpenSpec.upto wireNoneSpec)

/-- 'landfalllaw04.WireKnown', WHERE WHAT IT READS IS OF BULK AT MOST 1048576: true; the input reads as it did. -/
def wireKnownUptoRow : OpenClaim := { program := "ythcemghamdmjmaa", sum := "4c624e5568ed2f72f23a3bd7702f29ce4f18c1520ffaaa12e30b7903e805ea47", func := "landfall/landfalllaw04.WireKnown", spec := "wireKnown", inPlace := ["math.Float64frombits", "math.Float64bits"], unfollowed := true, recurses := true, plainKeys := false, apart := false, narrowed := true }
def WireKnownUptoSaid : Prop := wireKnownUptoRow.holds Try.pinned (OpenSpec.upto wireKnownSpec)

/-- 'landfalllaw04.WireBack', WHERE WHAT IT READS IS OF BULK AT MOST 1048576: true; the input reads as it did. -/
def wireBackUptoRow : OpenClaim := { program := "ythcemghamdmjmaa", sum := "4c624e5568ed2f72f23a3bd7702f29ce4f18c1520ffaaa12e30b7903e805ea47", func := "landfall/landfalllaw04.WireBack", spec := "wireBack", inPlace := ["math.Float64frombits", "math.Float64bits"], unfollowed := true, recurses := true, plainKeys := false, apart := false, narrowed := true }
def WireBackUptoSaid : Prop := wireBackUptoRow.holds Try.pinned (OpenSpec.upto wireBackSpec)

/-- 'landfalllaw04.WireOne', WHERE WHAT IT READS IS OF BULK AT MOST 1048576: true; the input reads as it did. -/
def wireOneUptoRow : OpenClaim := { program := "ythcemghamdmjmaa", sum := "4c624e5568ed2f72f23a3bd7702f29ce4f18c1520ffaaa12e30b7903e805ea47", func := "landfall/landfalllaw04.WireOne", spec := "wireOne", inPlace := ["math.Float64frombits", "math.Float64bits"], unfollowed := true, recurses := true, plainKeys := false, apart := false, narrowed := true }
def WireOneUptoSaid : Prop := wireOneUptoRow.holds Try.pinned (OpenSpec.upto wireOneSpec)

/-- 'landfalllaw05.ValsDecodes', WHERE WHAT IT READS IS OF BULK AT MOST 1048576: true; the input reads as it did. -/
def valsDecodesUptoRow : OpenClaim := { program := "ythcemghamdmjmaa", sum := "4c624e5568ed2f72f23a3bd7702f29ce4f18c1520ffaaa12e30b7903e805ea47", func := "landfall/landfalllaw05.ValsDecodes", spec := "valsDecodes", inPlace := ["internal/bytealg.Compare", "math/bits.Add64"], unfollowed := true, recurses := true, plainKeys := false, apart := false, narrowed := true }
def ValsDecodesUptoSaid : Prop := valsDecodesUptoRow.holds Try.pinned (OpenSpec.upto valsDecodesSpec)

/-- 'landfalllaw05.ValsMade', WHERE WHAT IT READS IS OF BULK AT MOST 1048576: true; the input reads as it did. -/
def valsMadeUptoRow : OpenClaim := { program := "ythcemghamdmjmaa", sum := "4c624e5568ed2f72f23a3bd7702f29ce4f18c1520ffaaa12e30b7903e805ea47", func := "landfall/landfalllaw05.ValsMade", spec := "valsMade", inPlace := ["internal/bytealg.Compare", "math/bits.Add64"], unfollowed := true, recurses := true, plainKeys := false, apart := false, narrowed := true }
def ValsMadeUptoSaid : Prop := valsMadeUptoRow.holds Try.pinned (OpenSpec.upto valsMadeSpec)

/-- 'landfalllaw07.CommitTells', WHERE WHAT IT READS IS OF BULK AT MOST 1048576: true; the input reads as it did. -/
def commitTellsUptoRow : OpenClaim := { program := "ythcemghamdmjmaa", sum := "4c624e5568ed2f72f23a3bd7702f29ce4f18c1520ffaaa12e30b7903e805ea47", func := "landfall/landfalllaw07.CommitTells", spec := "commitTells", inPlace := ["slices.overlaps[landfall/api.Vote]"], unfollowed := true, recurses := true, plainKeys := false, apart := false, narrowed := true }
def CommitTellsUptoSaid : Prop := commitTellsUptoRow.holds Try.pinned (OpenSpec.upto commitTellsSpec)

/-- 'landfalllaw07.CommitDecodes', WHERE WHAT IT READS IS OF BULK AT MOST 1048576: true; the input reads as it did. -/
def commitDecodesUptoRow : OpenClaim := { program := "ythcemghamdmjmaa", sum := "4c624e5568ed2f72f23a3bd7702f29ce4f18c1520ffaaa12e30b7903e805ea47", func := "landfall/landfalllaw07.CommitDecodes", spec := "commitDecodes", inPlace := ["slices.overlaps[landfall/api.Vote]"], unfollowed := true, recurses := true, plainKeys := false, apart := false, narrowed := true }
def CommitDecodesUptoSaid : Prop := commitDecodesUptoRow.holds Try.pinned (OpenSpec.upto commitDecodesSpec)

/-- 'landfalllaw07.CommitKnown', WHERE WHAT IT READS IS OF BULK AT MOST 1048576: true; the input reads as it did. -/
def commitKnownUptoRow : OpenClaim := { program := "ythcemghamdmjmaa", sum := "4c624e5568ed2f72f23a3bd7702f29ce4f18c1520ffaaa12e30b7903e805ea47", func := "landfall/landfalllaw07.CommitKnown", spec := "commitKnown", inPlace := ["slices.overlaps[landfall/api.Vote]"], unfollowed := true, recurses := true, plainKeys := false, apart := false, narrowed := true }
def CommitKnownUptoSaid : Prop := commitKnownUptoRow.holds Try.pinned (OpenSpec.upto commitKnownSpec)

/-- 'landfalllaw07.CommitBack', WHERE WHAT IT READS IS OF BULK AT MOST 1048576: true; the input reads as it did. -/
def commitBackUptoRow : OpenClaim := { program := "ythcemghamdmjmaa", sum := "4c624e5568ed2f72f23a3bd7702f29ce4f18c1520ffaaa12e30b7903e805ea47", func := "landfall/landfalllaw07.CommitBack", spec := "commitBack", inPlace := ["slices.overlaps[landfall/api.Vote]"], unfollowed := true, recurses := true, plainKeys := false, apart := false, narrowed := true }
def CommitBackUptoSaid : Prop := commitBackUptoRow.holds Try.pinned (OpenSpec.upto commitBackSpec)

/-- 'landfalllaw07.CommitGrows', WHERE WHAT IT READS IS OF BULK AT MOST 1048576: true; the input reads as it did. -/
def commitGrowsUptoRow : OpenClaim := { program := "ythcemghamdmjmaa", sum := "4c624e5568ed2f72f23a3bd7702f29ce4f18c1520ffaaa12e30b7903e805ea47", func := "landfall/landfalllaw07.CommitGrows", spec := "commitGrows", inPlace := ["slices.overlaps[landfall/api.Vote]"], unfollowed := true, recurses := true, plainKeys := false, apart := false, narrowed := true }
def CommitGrowsUptoSaid : Prop := commitGrowsUptoRow.holds Try.pinned (OpenSpec.upto commitGrowsSpec)

/-- 'landfalllaw08.SigsActs', WHERE WHAT IT READS IS OF BULK AT MOST 1048576: true; the input reads as it did. -/
def sigsActsUptoRow : OpenClaim := { program := "ythcemghamdmjmaa", sum := "4c624e5568ed2f72f23a3bd7702f29ce4f18c1520ffaaa12e30b7903e805ea47", func := "landfall/landfalllaw08.SigsActs", spec := "sigsActs", inPlace := ["internal/bytealg.Compare"], unfollowed := true, recurses := true, plainKeys := false, apart := false, narrowed := true }
def SigsActsUptoSaid : Prop := sigsActsUptoRow.holds Try.pinned (OpenSpec.upto sigsActsSpec)

/-- 'landfalllaw08.SigsNone', WHERE WHAT IT READS IS OF BULK AT MOST 1048576: true; the input reads as it did. -/
def sigsNoneUptoRow : OpenClaim := { program := "ythcemghamdmjmaa", sum := "4c624e5568ed2f72f23a3bd7702f29ce4f18c1520ffaaa12e30b7903e805ea47", func := "landfall/landfalllaw08.SigsNone", spec := "sigsNone", inPlace := ["internal/bytealg.Compare"], unfollowed := true, recurses := true, plainKeys := false, apart := false, narrowed := true }
def SigsNoneUptoSaid : Prop := sigsNoneUptoRow.holds Try.pinned (OpenSpec.upto sigsNoneSpec)

end Rows
end Go.Proofs.Ythcemghamdmjmaa
