/-
  DERIVED. GIVEN WITH THE SEED: THE CARDS: each row of YtpambhlhkmkagaaGreatDoorRows.lean that lists a variable, with what it lists TIED to the program's text (the seventh form; the later family's looks); each row that meets fmt, with fmt's text TOLD by the authors' own Lean function (tested against real Go, not proved from fmt's source: count such statements apart). THE CARD IS WHAT COUNTS. Prove the row's statement (the work); the ties are given (YtpambhlhkmkagaaGreatDoorTie.lean); close each card by the builder's one call (the guide's Derived/Test/ToyasCard.lean, 'card_holds'). Laid BY PROGRAM, IN A SANDBOX (cutbox-door.mjs). By AI agents, Wed Nov 11 2026. No macro, syntax, notation, axiom, sorry.
-/
import Derived.Test.YtpambhlhkmkagaaGreatDoorRows
import GoSem.ClaimSeven
namespace Go.Proofs.YtpambhlhkmkagaaGreatDoor
namespace Rows

/-- THE TIED CARD OF 'landfalllaw05.ValsTells'. -/
def valsTellsCard : Claim7 := { stood := { row := valsTellsRow, standIns := [], harness := (true, "c0a8ff719268b11d17c60e1561259346445254900fe6da9379ded1e9db21ed2e"), looks := true }, kinds := [], alts := [], laidByText := true, laidKinds := [.data], laidTests := true, laidLooks := .later }
def ValsTellsCardSaid : Prop := Claim7.holds Tryz.pinned (.plain (OpenSpec.ofChange valsTellsSpec)) valsTellsCard

/-- THE SECOND FORM's CARD OF 'landfalllaw05.ValsTells'. -/
def valsTellsUptoCard : Claim7 := { stood := { row := valsTellsUptoRow, standIns := [], harness := (true, "c0a8ff719268b11d17c60e1561259346445254900fe6da9379ded1e9db21ed2e"), looks := true }, kinds := [], alts := [], laidByText := true, laidKinds := [.data], laidTests := true, laidLooks := .later }
def ValsTellsUptoCardSaid : Prop := Claim7.holds Tryz.pinned (.plain (OpenSpec.upto valsTellsSpec)) valsTellsUptoCard
end Rows
end Go.Proofs.YtpambhlhkmkagaaGreatDoor
