/-
  DERIVED. GIVEN WITH THE SEED: THE CARDS: each row of YtfeiefgmeleeiaqDoorRows.lean that lists a variable, with what it lists TIED to the program's text (the seventh form; the later family's looks); each row that meets fmt, with fmt's text TOLD by the authors' own Lean function (tested against real Go, not proved from fmt's source: count such statements apart). THE CARD IS WHAT COUNTS. Prove the row's statement (the work); the ties are given (YtfeiefgmeleeiaqDoorTie.lean); close each card by the builder's one call (the guide's Derived/Test/ToyasCard.lean, 'card_holds'). Laid BY PROGRAM, IN A SANDBOX (cutbox-door.mjs). By AI agents, Wed Nov 11 2026. No macro, syntax, notation, axiom, sorry.
-/
import Derived.Test.YtfeiefgmeleeiaqDoorRows
import GoSem.ClaimSeven
namespace Go.Proofs.YtfeiefgmeleeiaqDoor
namespace Rows

/-- THE TIED CARD OF 'laws.FnExactSumOf'. -/
def fnExactSumOfCard : Claim7 := { stood := { row := fnExactSumOfRow, standIns := [], harness := (true, "762c430f93afb75a93dc8625cde75b17763bfbfeb6e9c065ed9b170064eb8e6b"), looks := false }, kinds := [], alts := [], laidByText := true, laidKinds := [.data], laidTests := true, laidLooks := .later }
def FnExactSumOfCardSaid : Prop := Claim7.holds Tryd.pinned (.plain (OpenSpec.ofChange fnExactSumOfSpec)) fnExactSumOfCard

/-- THE TIED CARD OF 'laws.FnExactAddSums'. -/
def fnExactAddSumsCard : Claim7 := { stood := { row := fnExactAddSumsRow, standIns := [], harness := (true, "762c430f93afb75a93dc8625cde75b17763bfbfeb6e9c065ed9b170064eb8e6b"), looks := false }, kinds := [], alts := [], laidByText := true, laidKinds := [.data], laidTests := true, laidLooks := .later }
def FnExactAddSumsCardSaid : Prop := Claim7.holds Tryd.pinned (.plain (OpenSpec.ofChange fnExactAddSumsSpec)) fnExactAddSumsCard

/-- THE TIED CARD OF 'laws.FnExactFillSum'. -/
def fnExactFillSumCard : Claim7 := { stood := { row := fnExactFillSumRow, standIns := [], harness := (true, "762c430f93afb75a93dc8625cde75b17763bfbfeb6e9c065ed9b170064eb8e6b"), looks := false }, kinds := [], alts := [], laidByText := true, laidKinds := [.data], laidTests := true, laidLooks := .later }
def FnExactFillSumCardSaid : Prop := Claim7.holds Tryd.pinned (.plain (OpenSpec.ofChange fnExactFillSumSpec)) fnExactFillSumCard

/-- THE SECOND FORM's CARD OF 'laws.FnExactSumOf'. -/
def fnExactSumOfUptoCard : Claim7 := { stood := { row := fnExactSumOfUptoRow, standIns := [], harness := (true, "762c430f93afb75a93dc8625cde75b17763bfbfeb6e9c065ed9b170064eb8e6b"), looks := false }, kinds := [], alts := [], laidByText := true, laidKinds := [.data], laidTests := true, laidLooks := .later }
def FnExactSumOfUptoCardSaid : Prop := Claim7.holds Tryd.pinned (.plain (OpenSpec.upto fnExactSumOfSpec)) fnExactSumOfUptoCard

/-- THE SECOND FORM's CARD OF 'laws.FnExactAddSums'. -/
def fnExactAddSumsUptoCard : Claim7 := { stood := { row := fnExactAddSumsUptoRow, standIns := [], harness := (true, "762c430f93afb75a93dc8625cde75b17763bfbfeb6e9c065ed9b170064eb8e6b"), looks := false }, kinds := [], alts := [], laidByText := true, laidKinds := [.data], laidTests := true, laidLooks := .later }
def FnExactAddSumsUptoCardSaid : Prop := Claim7.holds Tryd.pinned (.plain (OpenSpec.upto fnExactAddSumsSpec)) fnExactAddSumsUptoCard

/-- THE SECOND FORM's CARD OF 'laws.FnExactFillSum'. -/
def fnExactFillSumUptoCard : Claim7 := { stood := { row := fnExactFillSumUptoRow, standIns := [], harness := (true, "762c430f93afb75a93dc8625cde75b17763bfbfeb6e9c065ed9b170064eb8e6b"), looks := false }, kinds := [], alts := [], laidByText := true, laidKinds := [.data], laidTests := true, laidLooks := .later }
def FnExactFillSumUptoCardSaid : Prop := Claim7.holds Tryd.pinned (.plain (OpenSpec.upto fnExactFillSumSpec)) fnExactFillSumUptoCard
end Rows
end Go.Proofs.YtfeiefgmeleeiaqDoor
