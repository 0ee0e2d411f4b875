/-
  NARROWER THAN 'FOR EVERY INPUT', by the rows' own cells (each row's printed sentence says how): BlakeSums: laid · BlakeTells: laid · BlakeNone: laid · BlakeKnown: laid · BlakePieces: laid · BlakeTexts: laid · HeaderChecks: laid · HeaderHashes: laid.
  DERIVED. THE GIVEN ROWS OF THIS SEAT. 8 by the template 'for every input the law returns true; each argument reads behind the call as it read before'; 0 by the template 'total and deterministic' (their statements: YtfmegeibnjmfpaaDoorTotals.lean).
  GIVEN WITH THE SEED: the statements are not yours to turn. If you find one false, say at which input.
  Laid BY PROGRAM, IN A SANDBOX (cutbox-rows.mjs): the forced cells as the released guide's own fill.sh prints them over the translation 651a22885295bfa4… (all of the seat's roots in one cut). By AI agents, Wed Nov 11 2026. No macro, syntax, notation, axiom, sorry.
-/
import Derived.Test.YtfmegeibnjmfpaaDoorChecked
import GoSem.Claim
import GoSem.ClaimJoined
import GoSem.ClaimMapViews
import Derived.JoinedTies
import Derived.KernelRfl
namespace Go.Proofs.YtfmegeibnjmfpaaDoor
/- THE CELL 'sum', in the pinned program and in every row, IS THE sha256 OF THE DUMP (.gsa) THAT YtfmegeibnjmfpaaDoorProg.lean LOADS. Nothing in Lean hashes anything: it is a label: what it is worth is what the hold of that sum in a sandbox is worth. -/
noncomputable def Tryd.pinned : Pinned := { name := "ytfmegeibnjmfpaadoor", sum := "651a22885295bfa46c07fbcf9a23b7986a74e4084297b94d072208406ede21ab", checked := Tryd.checked }
namespace Rows
def none {H : Type} : Left H := { results := [], args := [] }

/- WHAT THE LISTED PACKAGE-LEVEL VARIABLES READ AS WHEN THE CALL BEGINS. Each datum BY PROGRAM (the guide's laid-datum.mjs) off the statement by which the dump's own 'gosem.cut.vars' lays the variable. In a bare row this is a premise. The card (YtfmegeibnjmfpaaDoorCards.lean) ties it to the program's text. -/
def laid_landfall_blake_initial {H : Type} : DataW H := .agg [.lit (.int .u32 1779033703), .lit (.int .u32 3144134277), .lit (.int .u32 1013904242), .lit (.int .u32 2773480762), .lit (.int .u32 1359893119), .lit (.int .u32 2600822924), .lit (.int .u32 528734635), .lit (.int .u32 1541459225)]

/-- 'landfalllaw03.BlakeSums': WHATEVER THE INPUT: true; the input reads as it did. -/
def blakeSumsSpec : ChangeSpec := { name := "blakeSums", fn := fun _ => fun
  | [d] => { results := [.lit (.bool true)], args := [d] }
  | _ => none }
def blakeSumsRow : OpenClaim := { program := "ytfmegeibnjmfpaadoor", sum := "651a22885295bfa46c07fbcf9a23b7986a74e4084297b94d072208406ede21ab", func := "landfall/landfalllaw03.BlakeSums", spec := "blakeSums", named := ["landfall/blake.initial"], apart := false, laid := [("landfall/blake.initial", laid_landfall_blake_initial)] }
def BlakeSumsSaid : Prop := blakeSumsRow.holds Tryd.pinned (OpenSpec.ofChange blakeSumsSpec)

/-- ITS FALSE NEIGHBOUR: 'it returns false'. Refute it at one input. -/
def blakeSumsWrong : ChangeSpec := { name := "blakeSums", fn := fun _ => fun
  | [d] => { results := [.lit (.bool false)], args := [d] }
  | _ => none }
def BlakeSumsWrongFalsely : Prop := blakeSumsRow.holds Tryd.pinned (OpenSpec.ofChange blakeSumsWrong)

/-- 'landfalllaw03.BlakeTells': WHATEVER THE INPUT: true; the input reads as it did. -/
def blakeTellsSpec : ChangeSpec := { name := "blakeTells", fn := fun _ => fun
  | [d1, d2, d3] => { results := [.lit (.bool true)], args := [d1, d2, d3] }
  | _ => none }
def blakeTellsRow : OpenClaim := { program := "ytfmegeibnjmfpaadoor", sum := "651a22885295bfa46c07fbcf9a23b7986a74e4084297b94d072208406ede21ab", func := "landfall/landfalllaw03.BlakeTells", spec := "blakeTells", inPlace := ["internal/bytealg.Compare"], named := ["landfall/blake.initial"], apart := false, laid := [("landfall/blake.initial", laid_landfall_blake_initial)] }
def BlakeTellsSaid : Prop := blakeTellsRow.holds Tryd.pinned (OpenSpec.ofChange blakeTellsSpec)

/-- ITS FALSE NEIGHBOUR: 'it returns false'. Refute it at one input. -/
def blakeTellsWrong : ChangeSpec := { name := "blakeTells", fn := fun _ => fun
  | [d1, d2, d3] => { results := [.lit (.bool false)], args := [d1, d2, d3] }
  | _ => none }
def BlakeTellsWrongFalsely : Prop := blakeTellsRow.holds Tryd.pinned (OpenSpec.ofChange blakeTellsWrong)

/-- 'landfalllaw03.BlakeNone': WHATEVER THE INPUT: true; the input reads as it did. -/
def blakeNoneSpec : ChangeSpec := { name := "blakeNone", fn := fun _ => fun
  | [d] => { results := [.lit (.bool true)], args := [d] }
  | _ => none }
def blakeNoneRow : OpenClaim := { program := "ytfmegeibnjmfpaadoor", sum := "651a22885295bfa46c07fbcf9a23b7986a74e4084297b94d072208406ede21ab", func := "landfall/landfalllaw03.BlakeNone", spec := "blakeNone", named := ["landfall/blake.initial"], apart := false, laid := [("landfall/blake.initial", laid_landfall_blake_initial)] }
def BlakeNoneSaid : Prop := blakeNoneRow.holds Tryd.pinned (OpenSpec.ofChange blakeNoneSpec)

/-- ITS FALSE NEIGHBOUR: 'it returns false'. Refute it at one input. -/
def blakeNoneWrong : ChangeSpec := { name := "blakeNone", fn := fun _ => fun
  | [d] => { results := [.lit (.bool false)], args := [d] }
  | _ => none }
def BlakeNoneWrongFalsely : Prop := blakeNoneRow.holds Tryd.pinned (OpenSpec.ofChange blakeNoneWrong)

/-- 'landfalllaw03.BlakeKnown': WHATEVER THE INPUT: true; the input reads as it did. -/
def blakeKnownSpec : ChangeSpec := { name := "blakeKnown", fn := fun _ => fun
  | [] => { results := [.lit (.bool true)], args := [] }
  | _ => none }
def blakeKnownRow : OpenClaim := { program := "ytfmegeibnjmfpaadoor", sum := "651a22885295bfa46c07fbcf9a23b7986a74e4084297b94d072208406ede21ab", func := "landfall/landfalllaw03.BlakeKnown", spec := "blakeKnown", inPlace := ["internal/bytealg.Compare"], named := ["landfall/blake.initial"], apart := false, laid := [("landfall/blake.initial", laid_landfall_blake_initial)] }
def BlakeKnownSaid : Prop := blakeKnownRow.holds Tryd.pinned (OpenSpec.ofChange blakeKnownSpec)

/-- ITS FALSE NEIGHBOUR: 'it returns false'. Refute it at one input. -/
def blakeKnownWrong : ChangeSpec := { name := "blakeKnown", fn := fun _ => fun
  | [] => { results := [.lit (.bool false)], args := [] }
  | _ => none }
def BlakeKnownWrongFalsely : Prop := blakeKnownRow.holds Tryd.pinned (OpenSpec.ofChange blakeKnownWrong)

/-- 'landfalllaw03.BlakePieces': WHATEVER THE INPUT: true; the input reads as it did. -/
def blakePiecesSpec : ChangeSpec := { name := "blakePieces", fn := fun _ => fun
  | [d1, d2] => { results := [.lit (.bool true)], args := [d1, d2] }
  | _ => none }
def blakePiecesRow : OpenClaim := { program := "ytfmegeibnjmfpaadoor", sum := "651a22885295bfa46c07fbcf9a23b7986a74e4084297b94d072208406ede21ab", func := "landfall/landfalllaw03.BlakePieces", spec := "blakePieces", inPlace := ["internal/bytealg.Compare"], named := ["landfall/blake.initial"], apart := false, laid := [("landfall/blake.initial", laid_landfall_blake_initial)] }
def BlakePiecesSaid : Prop := blakePiecesRow.holds Tryd.pinned (OpenSpec.ofChange blakePiecesSpec)

/-- ITS FALSE NEIGHBOUR: 'it returns false'. Refute it at one input. -/
def blakePiecesWrong : ChangeSpec := { name := "blakePieces", fn := fun _ => fun
  | [d1, d2] => { results := [.lit (.bool false)], args := [d1, d2] }
  | _ => none }
def BlakePiecesWrongFalsely : Prop := blakePiecesRow.holds Tryd.pinned (OpenSpec.ofChange blakePiecesWrong)

/-- 'landfalllaw03.BlakeTexts': WHATEVER THE INPUT: true; the input reads as it did. -/
def blakeTextsSpec : ChangeSpec := { name := "blakeTexts", fn := fun _ => fun
  | [d1, d2, d3] => { results := [.lit (.bool true)], args := [d1, d2, d3] }
  | _ => none }
def blakeTextsRow : OpenClaim := { program := "ytfmegeibnjmfpaadoor", sum := "651a22885295bfa46c07fbcf9a23b7986a74e4084297b94d072208406ede21ab", func := "landfall/landfalllaw03.BlakeTexts", spec := "blakeTexts", inPlace := ["internal/bytealg.Compare"], named := ["landfall/blake.initial"], apart := false, laid := [("landfall/blake.initial", laid_landfall_blake_initial)] }
def BlakeTextsSaid : Prop := blakeTextsRow.holds Tryd.pinned (OpenSpec.ofChange blakeTextsSpec)

/-- ITS FALSE NEIGHBOUR: 'it returns false'. Refute it at one input. -/
def blakeTextsWrong : ChangeSpec := { name := "blakeTexts", fn := fun _ => fun
  | [d1, d2, d3] => { results := [.lit (.bool false)], args := [d1, d2, d3] }
  | _ => none }
def BlakeTextsWrongFalsely : Prop := blakeTextsRow.holds Tryd.pinned (OpenSpec.ofChange blakeTextsWrong)

/-- 'landfalllaw06.HeaderChecks': WHATEVER THE INPUT: true; the input reads as it did. -/
def headerChecksSpec : ChangeSpec := { name := "headerChecks", fn := fun _ => fun
  | [d] => { results := [.lit (.bool true)], args := [d] }
  | _ => none }
def headerChecksRow : OpenClaim := { program := "ytfmegeibnjmfpaadoor", sum := "651a22885295bfa46c07fbcf9a23b7986a74e4084297b94d072208406ede21ab", func := "landfall/landfalllaw06.HeaderChecks", spec := "headerChecks", unfollowed := true, recurses := true, named := ["landfall/blake.initial"], apart := false, laid := [("landfall/blake.initial", laid_landfall_blake_initial)] }
def HeaderChecksSaid : Prop := headerChecksRow.holds Tryd.pinned (OpenSpec.ofChange headerChecksSpec)

/-- ITS FALSE NEIGHBOUR: 'it returns false'. Refute it at one input. -/
def headerChecksWrong : ChangeSpec := { name := "headerChecks", fn := fun _ => fun
  | [d] => { results := [.lit (.bool false)], args := [d] }
  | _ => none }
def HeaderChecksWrongFalsely : Prop := headerChecksRow.holds Tryd.pinned (OpenSpec.ofChange headerChecksWrong)

/-- 'landfalllaw06.HeaderHashes': WHATEVER THE INPUT: true; the input reads as it did. -/
def headerHashesSpec : ChangeSpec := { name := "headerHashes", fn := fun _ => fun
  | [d1, d2] => { results := [.lit (.bool true)], args := [d1, d2] }
  | _ => none }
def headerHashesRow : OpenClaim := { program := "ytfmegeibnjmfpaadoor", sum := "651a22885295bfa46c07fbcf9a23b7986a74e4084297b94d072208406ede21ab", func := "landfall/landfalllaw06.HeaderHashes", spec := "headerHashes", unfollowed := true, recurses := true, named := ["landfall/blake.initial"], apart := false, laid := [("landfall/blake.initial", laid_landfall_blake_initial)] }
def HeaderHashesSaid : Prop := headerHashesRow.holds Tryd.pinned (OpenSpec.ofChange headerHashesSpec)

/-- ITS FALSE NEIGHBOUR: 'it returns false'. Refute it at one input. -/
def headerHashesWrong : ChangeSpec := { name := "headerHashes", fn := fun _ => fun
  | [d1, d2] => { results := [.lit (.bool false)], args := [d1, d2] }
  | _ => none }
def HeaderHashesWrongFalsely : Prop := headerHashesRow.holds Tryd.pinned (OpenSpec.ofChange headerHashesWrong)

/- THE SECOND FORM. 'bulk': how many values and letters a reading holds, each counted each time it is reached (what is shared counts as often as it is met; a slice's spare places count too). A statement '..UptoSaid' is the law's where the arguments, and the package variables that the reading takes, are together of bulk at most 1048576: NARROWER than '..Said'. Prove '..Said' where nothing that the law and all that it calls make is longer than what came in: it says more and counts as full. Else prove '..UptoSaid'. A law counts once. -/
mutual
def uptoBulk {H : Type} : DataW H → Nat
  | .lit (.string bytes) => bytes.length + 1
  | .lit _ => 1
  | .nil => 1
  | .ptr d => uptoBulk d + 1
  | .slice elems spare => uptoBulkAll elems + uptoBulkAll spare + 1
  | .agg parts => uptoBulkAll parts + 1
  | .iface _ d => uptoBulk d + 1
  | .map entries => uptoBulkEntries entries + 1
  | .held _ => 1
def uptoBulkAll {H : Type} : List (DataW H) → Nat
  | [] => 0
  | d :: r => uptoBulk d + uptoBulkAll r
def uptoBulkEntries {H : Type} : List (Lit × DataW H) → Nat
  | [] => 0
  | x :: r => uptoBulkEntry x + uptoBulkEntries r
def uptoBulkEntry {H : Type} : Lit × DataW H → Nat
  | (.string bytes, d) => bytes.length + uptoBulk d + 1
  | (_, d) => uptoBulk d + 1
 end
def uptoSmall : (H : Type) → List (DataW H) → Bool := fun _ ds => decide (uptoBulkAll ds ≤ 1048576)
def OpenSpec.upto (s : _root_.Go.ChangeSpec) : _root_.Go.OpenSpec := { _root_.Go.OpenSpec.ofChange s with cond := some uptoSmall }

/-- 'landfalllaw03.BlakeSums', WHERE WHAT IT READS IS OF BULK AT MOST 1048576: true; the input reads as it did. -/
def blakeSumsUptoRow : OpenClaim := { program := "ytfmegeibnjmfpaadoor", sum := "651a22885295bfa46c07fbcf9a23b7986a74e4084297b94d072208406ede21ab", func := "landfall/landfalllaw03.BlakeSums", spec := "blakeSums", named := ["landfall/blake.initial"], apart := false, laid := [("landfall/blake.initial", laid_landfall_blake_initial)], narrowed := true }
def BlakeSumsUptoSaid : Prop := blakeSumsUptoRow.holds Tryd.pinned (OpenSpec.upto blakeSumsSpec)

/-- 'landfalllaw03.BlakeTells', WHERE WHAT IT READS IS OF BULK AT MOST 1048576: true; the input reads as it did. -/
def blakeTellsUptoRow : OpenClaim := { program := "ytfmegeibnjmfpaadoor", sum := "651a22885295bfa46c07fbcf9a23b7986a74e4084297b94d072208406ede21ab", func := "landfall/landfalllaw03.BlakeTells", spec := "blakeTells", inPlace := ["internal/bytealg.Compare"], named := ["landfall/blake.initial"], apart := false, laid := [("landfall/blake.initial", laid_landfall_blake_initial)], narrowed := true }
def BlakeTellsUptoSaid : Prop := blakeTellsUptoRow.holds Tryd.pinned (OpenSpec.upto blakeTellsSpec)

/-- 'landfalllaw03.BlakeNone', WHERE WHAT IT READS IS OF BULK AT MOST 1048576: true; the input reads as it did. -/
def blakeNoneUptoRow : OpenClaim := { program := "ytfmegeibnjmfpaadoor", sum := "651a22885295bfa46c07fbcf9a23b7986a74e4084297b94d072208406ede21ab", func := "landfall/landfalllaw03.BlakeNone", spec := "blakeNone", named := ["landfall/blake.initial"], apart := false, laid := [("landfall/blake.initial", laid_landfall_blake_initial)], narrowed := true }
def BlakeNoneUptoSaid : Prop := blakeNoneUptoRow.holds Tryd.pinned (OpenSpec.upto blakeNoneSpec)

/-- 'landfalllaw03.BlakeKnown', WHERE WHAT IT READS IS OF BULK AT MOST 1048576: true; the input reads as it did. -/
def blakeKnownUptoRow : OpenClaim := { program := "ytfmegeibnjmfpaadoor", sum := "651a22885295bfa46c07fbcf9a23b7986a74e4084297b94d072208406ede21ab", func := "landfall/landfalllaw03.BlakeKnown", spec := "blakeKnown", inPlace := ["internal/bytealg.Compare"], named := ["landfall/blake.initial"], apart := false, laid := [("landfall/blake.initial", laid_landfall_blake_initial)], narrowed := true }
def BlakeKnownUptoSaid : Prop := blakeKnownUptoRow.holds Tryd.pinned (OpenSpec.upto blakeKnownSpec)

/-- 'landfalllaw03.BlakePieces', WHERE WHAT IT READS IS OF BULK AT MOST 1048576: true; the input reads as it did. -/
def blakePiecesUptoRow : OpenClaim := { program := "ytfmegeibnjmfpaadoor", sum := "651a22885295bfa46c07fbcf9a23b7986a74e4084297b94d072208406ede21ab", func := "landfall/landfalllaw03.BlakePieces", spec := "blakePieces", inPlace := ["internal/bytealg.Compare"], named := ["landfall/blake.initial"], apart := false, laid := [("landfall/blake.initial", laid_landfall_blake_initial)], narrowed := true }
def BlakePiecesUptoSaid : Prop := blakePiecesUptoRow.holds Tryd.pinned (OpenSpec.upto blakePiecesSpec)

/-- 'landfalllaw03.BlakeTexts', WHERE WHAT IT READS IS OF BULK AT MOST 1048576: true; the input reads as it did. -/
def blakeTextsUptoRow : OpenClaim := { program := "ytfmegeibnjmfpaadoor", sum := "651a22885295bfa46c07fbcf9a23b7986a74e4084297b94d072208406ede21ab", func := "landfall/landfalllaw03.BlakeTexts", spec := "blakeTexts", inPlace := ["internal/bytealg.Compare"], named := ["landfall/blake.initial"], apart := false, laid := [("landfall/blake.initial", laid_landfall_blake_initial)], narrowed := true }
def BlakeTextsUptoSaid : Prop := blakeTextsUptoRow.holds Tryd.pinned (OpenSpec.upto blakeTextsSpec)

/-- 'landfalllaw06.HeaderChecks', WHERE WHAT IT READS IS OF BULK AT MOST 1048576: true; the input reads as it did. -/
def headerChecksUptoRow : OpenClaim := { program := "ytfmegeibnjmfpaadoor", sum := "651a22885295bfa46c07fbcf9a23b7986a74e4084297b94d072208406ede21ab", func := "landfall/landfalllaw06.HeaderChecks", spec := "headerChecks", unfollowed := true, recurses := true, named := ["landfall/blake.initial"], apart := false, laid := [("landfall/blake.initial", laid_landfall_blake_initial)], narrowed := true }
def HeaderChecksUptoSaid : Prop := headerChecksUptoRow.holds Tryd.pinned (OpenSpec.upto headerChecksSpec)

/-- 'landfalllaw06.HeaderHashes', WHERE WHAT IT READS IS OF BULK AT MOST 1048576: true; the input reads as it did. -/
def headerHashesUptoRow : OpenClaim := { program := "ytfmegeibnjmfpaadoor", sum := "651a22885295bfa46c07fbcf9a23b7986a74e4084297b94d072208406ede21ab", func := "landfall/landfalllaw06.HeaderHashes", spec := "headerHashes", unfollowed := true, recurses := true, named := ["landfall/blake.initial"], apart := false, laid := [("landfall/blake.initial", laid_landfall_blake_initial)], narrowed := true }
def HeaderHashesUptoSaid : Prop := headerHashesUptoRow.holds Tryd.pinned (OpenSpec.upto headerHashesSpec)

end Rows
end Go.Proofs.YtfmegeibnjmfpaaDoor
