/-
  DERIVED. GIVEN WITH THE SEED: THE CARDS: each row of YtgggdoahikgacaaGreatDoorRows.lean that lists a variable, with what it lists TIED to the program's text (the seventh form; the later family's looks); each row that meets fmt, with fmt's text TOLD by the authors' own Lean function (tested against real Go, not proved from fmt's source: count such statements apart). THE CARD IS WHAT COUNTS. Prove the row's statement (the work); the ties are given (YtgggdoahikgacaaGreatDoorTie.lean); close each card by the builder's one call (the guide's Derived/Test/ToyasCard.lean, 'card_holds'). Laid BY PROGRAM, IN A SANDBOX (cutbox-door.mjs). By AI agents, Wed Nov 11 2026. No macro, syntax, notation, axiom, sorry.
-/
import Derived.Test.YtgggdoahikgacaaGreatDoorRows
import GoSem.ClaimSeven
namespace Go.Proofs.YtgggdoahikgacaaGreatDoor
namespace Rows

/-- THE TIED CARD OF 'ceroplastlaw01.MouldKnown'. -/
def mouldKnownCard : Claim7 := { stood := { row := mouldKnownRow, standIns := [], harness := (true, "02adc00508983f61243d43dc0dc5d43c77b65a63d9f894b3d91aa07040d401a7"), looks := true }, kinds := [], alts := [], laidByText := true, laidKinds := [.data, .data, .data, .data, .sentinel, .sentinel, .pinned], laidTests := true, laidLooks := .later }
def MouldKnownCardSaid : Prop := Claim7.holds Tryz.pinned (.plain (OpenSpec.ofChange mouldKnownSpec)) mouldKnownCard

/-- THE SECOND FORM's CARD OF 'ceroplastlaw01.MouldKnown'. -/
def mouldKnownUptoCard : Claim7 := { stood := { row := mouldKnownUptoRow, standIns := [], harness := (true, "02adc00508983f61243d43dc0dc5d43c77b65a63d9f894b3d91aa07040d401a7"), looks := true }, kinds := [], alts := [], laidByText := true, laidKinds := [.data, .data, .data, .data, .sentinel, .sentinel, .pinned], laidTests := true, laidLooks := .later }
def MouldKnownUptoCardSaid : Prop := Claim7.holds Tryz.pinned (.plain (OpenSpec.upto mouldKnownSpec)) mouldKnownUptoCard
end Rows
end Go.Proofs.YtgggdoahikgacaaGreatDoor
