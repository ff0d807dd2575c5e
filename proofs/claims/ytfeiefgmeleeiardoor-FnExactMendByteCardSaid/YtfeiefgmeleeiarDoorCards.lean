/-
  DERIVED. GIVEN WITH THE SEED: THE CARDS: each row of YtfeiefgmeleeiarDoorRows.lean that lists a variable, with what it lists TIED to the program's text (the seventh form; the later family's looks); each row that meets fmt, with fmt's text TOLD by the authors' own Lean function (tested against real Go, not proved from fmt's source: count such statements apart). THE CARD IS WHAT COUNTS. Prove the row's statement (the work); the ties are given (YtfeiefgmeleeiarDoorTie.lean); close each card by the builder's one call (the guide's Derived/Test/ToyasCard.lean, 'card_holds'). Laid BY PROGRAM, IN A SANDBOX (cutbox-door.mjs). By AI agents, Wed Nov 11 2026. No macro, syntax, notation, axiom, sorry.
-/
import Derived.Test.YtfeiefgmeleeiarDoorRows
import GoSem.ClaimSeven
namespace Go.Proofs.YtfeiefgmeleeiarDoor
namespace Rows

/-- THE TIED CARD OF 'laws.FnExactIsWhole'. -/
def fnExactIsWholeCard : Claim7 := { stood := { row := fnExactIsWholeRow, standIns := [], harness := (true, "ea10fbf06c995b1bc20ba2d7ca1935ffa463d45f9e1e781468727f00e43a52b2"), looks := false }, kinds := [], alts := [], laidByText := true, laidKinds := [.data], laidTests := true, laidLooks := .later }
def FnExactIsWholeCardSaid : Prop := Claim7.holds Tryd.pinned (.plain (OpenSpec.ofChange fnExactIsWholeSpec)) fnExactIsWholeCard

/-- THE TIED CARD OF 'laws.FnExactMendByte'. -/
def fnExactMendByteCard : Claim7 := { stood := { row := fnExactMendByteRow, standIns := [], harness := (true, "ea10fbf06c995b1bc20ba2d7ca1935ffa463d45f9e1e781468727f00e43a52b2"), looks := false }, kinds := [], alts := [], laidByText := true, laidKinds := [.data], laidTests := true, laidLooks := .later }
def FnExactMendByteCardSaid : Prop := Claim7.holds Tryd.pinned (.plain (OpenSpec.ofChange fnExactMendByteSpec)) fnExactMendByteCard

/-- THE SECOND FORM's CARD OF 'laws.FnExactIsWhole'. -/
def fnExactIsWholeUptoCard : Claim7 := { stood := { row := fnExactIsWholeUptoRow, standIns := [], harness := (true, "ea10fbf06c995b1bc20ba2d7ca1935ffa463d45f9e1e781468727f00e43a52b2"), looks := false }, kinds := [], alts := [], laidByText := true, laidKinds := [.data], laidTests := true, laidLooks := .later }
def FnExactIsWholeUptoCardSaid : Prop := Claim7.holds Tryd.pinned (.plain (OpenSpec.upto fnExactIsWholeSpec)) fnExactIsWholeUptoCard

/-- THE SECOND FORM's CARD OF 'laws.FnExactMendByte'. -/
def fnExactMendByteUptoCard : Claim7 := { stood := { row := fnExactMendByteUptoRow, standIns := [], harness := (true, "ea10fbf06c995b1bc20ba2d7ca1935ffa463d45f9e1e781468727f00e43a52b2"), looks := false }, kinds := [], alts := [], laidByText := true, laidKinds := [.data], laidTests := true, laidLooks := .later }
def FnExactMendByteUptoCardSaid : Prop := Claim7.holds Tryd.pinned (.plain (OpenSpec.upto fnExactMendByteSpec)) fnExactMendByteUptoCard
end Rows
end Go.Proofs.YtfeiefgmeleeiarDoor
