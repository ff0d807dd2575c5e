/-
  No cell of these rows narrows 'for every input' (looked for: loops, veiled, ifaces, maps, wideKeys, modest, calm, conditions, laid).
  DERIVED. THE GIVEN ROWS OF THIS SEAT. 6 by the template 'for every input the law returns true; each argument reads behind the call as it read before'; 0 by the template 'total and deterministic' (their statements: YtkpdiojomgiocayTotals.lean).
  GIVEN WITH THE SEED: the statements are not yours to turn. If you find one false, say at which input.
  Laid BY PROGRAM, IN A SANDBOX (cutbox-rows.mjs): the forced cells as the released guide's own fill.sh prints them over the translation 1720ceb68617683e… (all of the seat's roots in one cut). By AI agents, Wed Nov 11 2026. No macro, syntax, notation, axiom, sorry.
-/
import Derived.Test.YtkpdiojomgiocayChecked
import GoSem.Claim
import GoSem.ClaimJoined
import GoSem.ClaimMapViews
import Derived.JoinedTies
import Derived.KernelRfl
namespace Go.Proofs.Ytkpdiojomgiocay
/- THE CELL 'sum', in the pinned program and in every row, IS THE sha256 OF THE DUMP (.gsa) THAT YtkpdiojomgiocayProg.lean LOADS. Nothing in Lean hashes anything: it is a label: what it is worth is what the hold of that sum in a sandbox is worth. -/
noncomputable def Try.pinned : Pinned := { name := "ytkpdiojomgiocay", sum := "1720ceb68617683e13b074602824adcc390aa5d1e6bbf2f2ab0488d0d8487828", checked := Try.checked }
namespace Rows
def none {H : Type} : Left H := { results := [], args := [] }

/-- 'laws.FnExactGoodSummary': WHATEVER THE INPUT: true; the input reads as it did. -/
def fnExactGoodSummarySpec : ChangeSpec := { name := "fnExactGoodSummary", fn := fun _ => fun
  | [d] => { results := [.lit (.bool true)], args := [d] }
  | _ => none }
def fnExactGoodSummaryRow : OpenClaim := { program := "ytkpdiojomgiocay", sum := "1720ceb68617683e13b074602824adcc390aa5d1e6bbf2f2ab0488d0d8487828", func := "loop.example/g00575/laws.FnExactGoodSummary", spec := "fnExactGoodSummary", apart := false }
def FnExactGoodSummarySaid : Prop := fnExactGoodSummaryRow.holds Try.pinned (OpenSpec.ofChange fnExactGoodSummarySpec)

/-- ITS FALSE NEIGHBOUR: 'it returns false'. Refute it at one input. -/
def fnExactGoodSummaryWrong : ChangeSpec := { name := "fnExactGoodSummary", fn := fun _ => fun
  | [d] => { results := [.lit (.bool false)], args := [d] }
  | _ => none }
def FnExactGoodSummaryWrongFalsely : Prop := fnExactGoodSummaryRow.holds Try.pinned (OpenSpec.ofChange fnExactGoodSummaryWrong)

/-- 'laws.FnExactCutHaves': WHATEVER THE INPUT: true; the input reads as it did. -/
def fnExactCutHavesSpec : ChangeSpec := { name := "fnExactCutHaves", fn := fun _ => fun
  | [d1, d2] => { results := [.lit (.bool true)], args := [d1, d2] }
  | _ => none }
def fnExactCutHavesRow : OpenClaim := { program := "ytkpdiojomgiocay", sum := "1720ceb68617683e13b074602824adcc390aa5d1e6bbf2f2ab0488d0d8487828", func := "loop.example/g00575/laws.FnExactCutHaves", spec := "fnExactCutHaves", apart := false }
def FnExactCutHavesSaid : Prop := fnExactCutHavesRow.holds Try.pinned (OpenSpec.ofChange fnExactCutHavesSpec)

/-- ITS FALSE NEIGHBOUR: 'it returns false'. Refute it at one input. -/
def fnExactCutHavesWrong : ChangeSpec := { name := "fnExactCutHaves", fn := fun _ => fun
  | [d1, d2] => { results := [.lit (.bool false)], args := [d1, d2] }
  | _ => none }
def FnExactCutHavesWrongFalsely : Prop := fnExactCutHavesRow.holds Try.pinned (OpenSpec.ofChange fnExactCutHavesWrong)

/-- 'laws.FnExactAskFor': WHATEVER THE INPUT: true; the input reads as it did. -/
def fnExactAskForSpec : ChangeSpec := { name := "fnExactAskFor", fn := fun _ => fun
  | [d1, d2] => { results := [.lit (.bool true)], args := [d1, d2] }
  | _ => none }
def fnExactAskForRow : OpenClaim := { program := "ytkpdiojomgiocay", sum := "1720ceb68617683e13b074602824adcc390aa5d1e6bbf2f2ab0488d0d8487828", func := "loop.example/g00575/laws.FnExactAskFor", spec := "fnExactAskFor", unfollowed := true, recurses := true, apart := false }
def FnExactAskForSaid : Prop := fnExactAskForRow.holds Try.pinned (OpenSpec.ofChange fnExactAskForSpec)

/-- ITS FALSE NEIGHBOUR: 'it returns false'. Refute it at one input. -/
def fnExactAskForWrong : ChangeSpec := { name := "fnExactAskFor", fn := fun _ => fun
  | [d1, d2] => { results := [.lit (.bool false)], args := [d1, d2] }
  | _ => none }
def FnExactAskForWrongFalsely : Prop := fnExactAskForRow.holds Try.pinned (OpenSpec.ofChange fnExactAskForWrong)

/-- 'laws.FnExactMergeHaves': WHATEVER THE INPUT: true; the input reads as it did. -/
def fnExactMergeHavesSpec : ChangeSpec := { name := "fnExactMergeHaves", fn := fun _ => fun
  | [d1, d2] => { results := [.lit (.bool true)], args := [d1, d2] }
  | _ => none }
def fnExactMergeHavesRow : OpenClaim := { program := "ytkpdiojomgiocay", sum := "1720ceb68617683e13b074602824adcc390aa5d1e6bbf2f2ab0488d0d8487828", func := "loop.example/g00575/laws.FnExactMergeHaves", spec := "fnExactMergeHaves", unfollowed := true, recurses := true, apart := false }
def FnExactMergeHavesSaid : Prop := fnExactMergeHavesRow.holds Try.pinned (OpenSpec.ofChange fnExactMergeHavesSpec)

/-- ITS FALSE NEIGHBOUR: 'it returns false'. Refute it at one input. -/
def fnExactMergeHavesWrong : ChangeSpec := { name := "fnExactMergeHaves", fn := fun _ => fun
  | [d1, d2] => { results := [.lit (.bool false)], args := [d1, d2] }
  | _ => none }
def FnExactMergeHavesWrongFalsely : Prop := fnExactMergeHavesRow.holds Try.pinned (OpenSpec.ofChange fnExactMergeHavesWrong)

/-- 'laws.FnExactSyncBy': WHATEVER THE INPUT: true; the input reads as it did. -/
def fnExactSyncBySpec : ChangeSpec := { name := "fnExactSyncBy", fn := fun _ => fun
  | [d1, d2, d3] => { results := [.lit (.bool true)], args := [d1, d2, d3] }
  | _ => none }
def fnExactSyncByRow : OpenClaim := { program := "ytkpdiojomgiocay", sum := "1720ceb68617683e13b074602824adcc390aa5d1e6bbf2f2ab0488d0d8487828", func := "loop.example/g00575/laws.FnExactSyncBy", spec := "fnExactSyncBy", unfollowed := true, recurses := true, apart := false }
def FnExactSyncBySaid : Prop := fnExactSyncByRow.holds Try.pinned (OpenSpec.ofChange fnExactSyncBySpec)

/-- ITS FALSE NEIGHBOUR: 'it returns false'. Refute it at one input. -/
def fnExactSyncByWrong : ChangeSpec := { name := "fnExactSyncBy", fn := fun _ => fun
  | [d1, d2, d3] => { results := [.lit (.bool false)], args := [d1, d2, d3] }
  | _ => none }
def FnExactSyncByWrongFalsely : Prop := fnExactSyncByRow.holds Try.pinned (OpenSpec.ofChange fnExactSyncByWrong)

/-- 'laws.FnExactSeqFor': WHATEVER THE INPUT: true; the input reads as it did. -/
def fnExactSeqForSpec : ChangeSpec := { name := "fnExactSeqFor", fn := fun _ => fun
  | [d1, d2] => { results := [.lit (.bool true)], args := [d1, d2] }
  | _ => none }
def fnExactSeqForRow : OpenClaim := { program := "ytkpdiojomgiocay", sum := "1720ceb68617683e13b074602824adcc390aa5d1e6bbf2f2ab0488d0d8487828", func := "loop.example/g00575/laws.FnExactSeqFor", spec := "fnExactSeqFor", apart := false }
def FnExactSeqForSaid : Prop := fnExactSeqForRow.holds Try.pinned (OpenSpec.ofChange fnExactSeqForSpec)

/-- ITS FALSE NEIGHBOUR: 'it returns false'. Refute it at one input. -/
def fnExactSeqForWrong : ChangeSpec := { name := "fnExactSeqFor", fn := fun _ => fun
  | [d1, d2] => { results := [.lit (.bool false)], args := [d1, d2] }
  | _ => none }
def FnExactSeqForWrongFalsely : Prop := fnExactSeqForRow.holds Try.pinned (OpenSpec.ofChange fnExactSeqForWrong)

/- THE SECOND FORM. 'bulk': how many values and letters a reading holds, each counted each time it is reached (what is shared counts as often as it is met; a slice's spare places count too). A statement '..UptoSaid' is the law's where the arguments, and the package variables that the reading takes, are together of bulk at most 1048576: NARROWER than '..Said'. Prove '..Said' where nothing that the law and all that it calls make is longer than what came in: it says more and counts as full. Else prove '..UptoSaid'. A law counts once. -/
mutual
def uptoBulk {H : Type} : DataW H → Nat
  | .lit (.string bytes) => bytes.length + 1
  | .lit _ => 1
  | .nil => 1
  | .ptr d => uptoBulk d + 1
  | .slice elems spare => uptoBulkAll elems + uptoBulkAll spare + 1
  | .agg parts => uptoBulkAll parts + 1
  | .iface _ d => uptoBulk d + 1
  | .map entries => uptoBulkEntries entries + 1
  | .held _ => 1
def uptoBulkAll {H : Type} : List (DataW H) → Nat
  | [] => 0
  | d :: r => uptoBulk d + uptoBulkAll r
def uptoBulkEntries {H : Type} : List (Lit × DataW H) → Nat
  | [] => 0
  | x :: r => uptoBulkEntry x + uptoBulkEntries r
def uptoBulkEntry {H : Type} : Lit × DataW H → Nat
  | (.string bytes, d) => bytes.length + uptoBulk d + 1
  | (_, d) => uptoBulk d + 1
 end
def uptoSmall : (H : Type) → List (DataW H) → Bool := fun _ ds => decide (uptoBulkAll ds ≤ 1048576)
def OpenSpec.upto (s : _root_.Go.ChangeSpec) : _root_.Go.OpenSpec := { _root_.Go.OpenSpec.ofChange s with cond := some uptoSmall }

/-- 'laws.FnExactGoodSummary', WHERE WHAT IT READS IS OF BULK AT MOST 1048576: true; the input reads as it did. -/
def fnExactGoodSummaryUptoRow : OpenClaim := { program := "ytkpdiojomgiocay", sum := "1720ceb68617683e13b074602824adcc390aa5d1e6bbf2f2ab0488d0d8487828", func := "loop.example/g00575/laws.FnExactGoodSummary", spec := "fnExactGoodSummary", apart := false, narrowed := true }
def FnExactGoodSummaryUptoSaid : Prop := fnExactGoodSummaryUptoRow.holds Try.pinned (OpenSpec.upto fnExactGoodSummarySpec)

/-- 'laws.FnExactCutHaves', WHERE WHAT IT READS IS OF BULK AT MOST 1048576: true; the input reads as it did. -/
def fnExactCutHavesUptoRow : OpenClaim := { program := "ytkpdiojomgiocay", sum := "1720ceb68617683e13b074602824adcc390aa5d1e6bbf2f2ab0488d0d8487828", func := "loop.example/g00575/laws.FnExactCutHaves", spec := "fnExactCutHaves", apart := false, narrowed := true }
def FnExactCutHavesUptoSaid : Prop := fnExactCutHavesUptoRow.holds Try.pinned (OpenSpec.upto fnExactCutHavesSpec)

/-- 'laws.FnExactAskFor', WHERE WHAT IT READS IS OF BULK AT MOST 1048576: true; the input reads as it did. -/
def fnExactAskForUptoRow : OpenClaim := { program := "ytkpdiojomgiocay", sum := "1720ceb68617683e13b074602824adcc390aa5d1e6bbf2f2ab0488d0d8487828", func := "loop.example/g00575/laws.FnExactAskFor", spec := "fnExactAskFor", unfollowed := true, recurses := true, apart := false, narrowed := true }
def FnExactAskForUptoSaid : Prop := fnExactAskForUptoRow.holds Try.pinned (OpenSpec.upto fnExactAskForSpec)

/-- 'laws.FnExactMergeHaves', WHERE WHAT IT READS IS OF BULK AT MOST 1048576: true; the input reads as it did. -/
def fnExactMergeHavesUptoRow : OpenClaim := { program := "ytkpdiojomgiocay", sum := "1720ceb68617683e13b074602824adcc390aa5d1e6bbf2f2ab0488d0d8487828", func := "loop.example/g00575/laws.FnExactMergeHaves", spec := "fnExactMergeHaves", unfollowed := true, recurses := true, apart := false, narrowed := true }
def FnExactMergeHavesUptoSaid : Prop := fnExactMergeHavesUptoRow.holds Try.pinned (OpenSpec.upto fnExactMergeHavesSpec)

/-- 'laws.FnExactSyncBy', WHERE WHAT IT READS IS OF BULK AT MOST 1048576: true; the input reads as it did. -/
def fnExactSyncByUptoRow : OpenClaim := { program := "ytkpdiojomgiocay", sum := "1720ceb68617683e13b074602824adcc390aa5d1e6bbf2f2ab0488d0d8487828", func := "loop.example/g00575/laws.FnExactSyncBy", spec := "fnExactSyncBy", unfollowed := true, recurses := true, apart := false, narrowed := true }
def FnExactSyncByUptoSaid : Prop := fnExactSyncByUptoRow.holds Try.pinned (OpenSpec.upto fnExactSyncBySpec)

/-- 'laws.FnExactSeqFor', WHERE WHAT IT READS IS OF BULK AT MOST 1048576: true; the input reads as it did. -/
def fnExactSeqForUptoRow : OpenClaim := { program := "ytkpdiojomgiocay", sum := "1720ceb68617683e13b074602824adcc390aa5d1e6bbf2f2ab0488d0d8487828", func := "loop.example/g00575/laws.FnExactSeqFor", spec := "fnExactSeqFor", apart := false, narrowed := true }
def FnExactSeqForUptoSaid : Prop := fnExactSeqForUptoRow.holds Try.pinned (OpenSpec.upto fnExactSeqForSpec)

end Rows
end Go.Proofs.Ytkpdiojomgiocay
