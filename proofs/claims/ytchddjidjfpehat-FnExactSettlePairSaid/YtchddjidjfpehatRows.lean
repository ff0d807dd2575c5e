/-
  No cell of these rows narrows 'for every input' (looked for: loops, veiled, ifaces, maps, wideKeys, modest, calm, conditions, laid).
  DERIVED. THE GIVEN ROWS OF THIS SEAT. 6 by the template 'for every input the law returns true; each argument reads behind the call as it read before'; 0 by the template 'total and deterministic' (their statements: YtchddjidjfpehatTotals.lean).
  GIVEN WITH THE SEED: the statements are not yours to turn. If you find one false, say at which input.
  Laid BY PROGRAM, IN A SANDBOX (cutbox-rows.mjs): the forced cells as the released guide's own fill.sh prints them over the translation c8225fcfd3b7cd71… (all of the seat's roots in one cut). By AI agents, Wed Nov 11 2026. No macro, syntax, notation, axiom, sorry.
-/
import Derived.Test.YtchddjidjfpehatChecked
import GoSem.Claim
import GoSem.ClaimJoined
import GoSem.ClaimMapViews
import Derived.JoinedTies
import Derived.KernelRfl
namespace Go.Proofs.Ytchddjidjfpehat
/- THE CELL 'sum', in the pinned program and in every row, IS THE sha256 OF THE DUMP (.gsa) THAT YtchddjidjfpehatProg.lean LOADS. Nothing in Lean hashes anything: it is a label: what it is worth is what the hold of that sum in a sandbox is worth. -/
noncomputable def Try.pinned : Pinned := { name := "ytchddjidjfpehat", sum := "c8225fcfd3b7cd7135a62c98ad25ea2834475d3ec17361ad272ecaa31409fecd", checked := Try.checked }
namespace Rows
def none {H : Type} : Left H := { results := [], args := [] }

/-- 'laws.FnExactNewPair': WHATEVER THE INPUT: true; the input reads as it did. -/
def fnExactNewPairSpec : ChangeSpec := { name := "fnExactNewPair", fn := fun _ => fun
  | [d] => { results := [.lit (.bool true)], args := [d] }
  | _ => none }
def fnExactNewPairRow : OpenClaim := { program := "ytchddjidjfpehat", sum := "c8225fcfd3b7cd7135a62c98ad25ea2834475d3ec17361ad272ecaa31409fecd", func := "loop.example/g00575/laws.FnExactNewPair", spec := "fnExactNewPair", apart := false }
def FnExactNewPairSaid : Prop := fnExactNewPairRow.holds Try.pinned (OpenSpec.ofChange fnExactNewPairSpec)

/-- ITS FALSE NEIGHBOUR: 'it returns false'. Refute it at one input. -/
def fnExactNewPairWrong : ChangeSpec := { name := "fnExactNewPair", fn := fun _ => fun
  | [d] => { results := [.lit (.bool false)], args := [d] }
  | _ => none }
def FnExactNewPairWrongFalsely : Prop := fnExactNewPairRow.holds Try.pinned (OpenSpec.ofChange fnExactNewPairWrong)

/-- 'laws.FnExactGoodPair': WHATEVER THE INPUT: true; the input reads as it did. -/
def fnExactGoodPairSpec : ChangeSpec := { name := "fnExactGoodPair", fn := fun _ => fun
  | [d] => { results := [.lit (.bool true)], args := [d] }
  | _ => none }
def fnExactGoodPairRow : OpenClaim := { program := "ytchddjidjfpehat", sum := "c8225fcfd3b7cd7135a62c98ad25ea2834475d3ec17361ad272ecaa31409fecd", func := "loop.example/g00575/laws.FnExactGoodPair", spec := "fnExactGoodPair", apart := false }
def FnExactGoodPairSaid : Prop := fnExactGoodPairRow.holds Try.pinned (OpenSpec.ofChange fnExactGoodPairSpec)

/-- ITS FALSE NEIGHBOUR: 'it returns false'. Refute it at one input. -/
def fnExactGoodPairWrong : ChangeSpec := { name := "fnExactGoodPair", fn := fun _ => fun
  | [d] => { results := [.lit (.bool false)], args := [d] }
  | _ => none }
def FnExactGoodPairWrongFalsely : Prop := fnExactGoodPairRow.holds Try.pinned (OpenSpec.ofChange fnExactGoodPairWrong)

/-- 'laws.FnExactStepPair': WHATEVER THE INPUT: true; the input reads as it did. -/
def fnExactStepPairSpec : ChangeSpec := { name := "fnExactStepPair", fn := fun _ => fun
  | [d1, d2] => { results := [.lit (.bool true)], args := [d1, d2] }
  | _ => none }
def fnExactStepPairRow : OpenClaim := { program := "ytchddjidjfpehat", sum := "c8225fcfd3b7cd7135a62c98ad25ea2834475d3ec17361ad272ecaa31409fecd", func := "loop.example/g00575/laws.FnExactStepPair", spec := "fnExactStepPair", apart := false }
def FnExactStepPairSaid : Prop := fnExactStepPairRow.holds Try.pinned (OpenSpec.ofChange fnExactStepPairSpec)

/-- ITS FALSE NEIGHBOUR: 'it returns false'. Refute it at one input. -/
def fnExactStepPairWrong : ChangeSpec := { name := "fnExactStepPair", fn := fun _ => fun
  | [d1, d2] => { results := [.lit (.bool false)], args := [d1, d2] }
  | _ => none }
def FnExactStepPairWrongFalsely : Prop := fnExactStepPairRow.holds Try.pinned (OpenSpec.ofChange fnExactStepPairWrong)

/-- 'laws.FnExactPlayPair': WHATEVER THE INPUT: true; the input reads as it did. -/
def fnExactPlayPairSpec : ChangeSpec := { name := "fnExactPlayPair", fn := fun _ => fun
  | [d] => { results := [.lit (.bool true)], args := [d] }
  | _ => none }
def fnExactPlayPairRow : OpenClaim := { program := "ytchddjidjfpehat", sum := "c8225fcfd3b7cd7135a62c98ad25ea2834475d3ec17361ad272ecaa31409fecd", func := "loop.example/g00575/laws.FnExactPlayPair", spec := "fnExactPlayPair", apart := false }
def FnExactPlayPairSaid : Prop := fnExactPlayPairRow.holds Try.pinned (OpenSpec.ofChange fnExactPlayPairSpec)

/-- ITS FALSE NEIGHBOUR: 'it returns false'. Refute it at one input. -/
def fnExactPlayPairWrong : ChangeSpec := { name := "fnExactPlayPair", fn := fun _ => fun
  | [d] => { results := [.lit (.bool false)], args := [d] }
  | _ => none }
def FnExactPlayPairWrongFalsely : Prop := fnExactPlayPairRow.holds Try.pinned (OpenSpec.ofChange fnExactPlayPairWrong)

/-- 'laws.FnExactAreBoth': WHATEVER THE INPUT: true; the input reads as it did. -/
def fnExactAreBothSpec : ChangeSpec := { name := "fnExactAreBoth", fn := fun _ => fun
  | [d] => { results := [.lit (.bool true)], args := [d] }
  | _ => none }
def fnExactAreBothRow : OpenClaim := { program := "ytchddjidjfpehat", sum := "c8225fcfd3b7cd7135a62c98ad25ea2834475d3ec17361ad272ecaa31409fecd", func := "loop.example/g00575/laws.FnExactAreBoth", spec := "fnExactAreBoth", apart := false }
def FnExactAreBothSaid : Prop := fnExactAreBothRow.holds Try.pinned (OpenSpec.ofChange fnExactAreBothSpec)

/-- ITS FALSE NEIGHBOUR: 'it returns false'. Refute it at one input. -/
def fnExactAreBothWrong : ChangeSpec := { name := "fnExactAreBoth", fn := fun _ => fun
  | [d] => { results := [.lit (.bool false)], args := [d] }
  | _ => none }
def FnExactAreBothWrongFalsely : Prop := fnExactAreBothRow.holds Try.pinned (OpenSpec.ofChange fnExactAreBothWrong)

/-- 'laws.FnExactSettlePair': WHATEVER THE INPUT: true; the input reads as it did. -/
def fnExactSettlePairSpec : ChangeSpec := { name := "fnExactSettlePair", fn := fun _ => fun
  | [d] => { results := [.lit (.bool true)], args := [d] }
  | _ => none }
def fnExactSettlePairRow : OpenClaim := { program := "ytchddjidjfpehat", sum := "c8225fcfd3b7cd7135a62c98ad25ea2834475d3ec17361ad272ecaa31409fecd", func := "loop.example/g00575/laws.FnExactSettlePair", spec := "fnExactSettlePair", apart := false }
def FnExactSettlePairSaid : Prop := fnExactSettlePairRow.holds Try.pinned (OpenSpec.ofChange fnExactSettlePairSpec)

/-- ITS FALSE NEIGHBOUR: 'it returns false'. Refute it at one input. -/
def fnExactSettlePairWrong : ChangeSpec := { name := "fnExactSettlePair", fn := fun _ => fun
  | [d] => { results := [.lit (.bool false)], args := [d] }
  | _ => none }
def FnExactSettlePairWrongFalsely : Prop := fnExactSettlePairRow.holds Try.pinned (OpenSpec.ofChange fnExactSettlePairWrong)

/- THE SECOND FORM. 'bulk': how many values and letters a reading holds, each counted each time it is reached (what is shared counts as often as it is met; a slice's spare places count too). A statement '..UptoSaid' is the law's where the arguments, and the package variables that the reading takes, are together of bulk at most 1048576: NARROWER than '..Said'. Prove '..Said' where nothing that the law and all that it calls make is longer than what came in: it says more and counts as full. Else prove '..UptoSaid'. A law counts once. -/
mutual
def uptoBulk {H : Type} : DataW H → Nat
  | .lit (.string bytes) => bytes.length + 1
  | .lit _ => 1
  | .nil => 1
  | .ptr d => uptoBulk d + 1
  | .slice elems spare => uptoBulkAll elems + uptoBulkAll spare + 1
  | .agg parts => uptoBulkAll parts + 1
  | .iface _ d => uptoBulk d + 1
  | .map entries => uptoBulkEntries entries + 1
  | .held _ => 1
def uptoBulkAll {H : Type} : List (DataW H) → Nat
  | [] => 0
  | d :: r => uptoBulk d + uptoBulkAll r
def uptoBulkEntries {H : Type} : List (Lit × DataW H) → Nat
  | [] => 0
  | x :: r => uptoBulkEntry x + uptoBulkEntries r
def uptoBulkEntry {H : Type} : Lit × DataW H → Nat
  | (.string bytes, d) => bytes.length + uptoBulk d + 1
  | (_, d) => uptoBulk d + 1
 end
def uptoSmall : (H : Type) → List (DataW H) → Bool := fun _ ds => decide (uptoBulkAll ds ≤ 1048576)
def OpenSpec.upto (s : _root_.Go.ChangeSpec) : _root_.Go.OpenSpec := { _root_.Go.OpenSpec.ofChange s with cond := some uptoSmall }

/-- 'laws.FnExactNewPair', WHERE WHAT IT READS IS OF BULK AT MOST 1048576: true; the input reads as it did. -/
def fnExactNewPairUptoRow : OpenClaim := { program := "ytchddjidjfpehat", sum := "c8225fcfd3b7cd7135a62c98ad25ea2834475d3ec17361ad272ecaa31409fecd", func := "loop.example/g00575/laws.FnExactNewPair", spec := "fnExactNewPair", apart := false, narrowed := true }
def FnExactNewPairUptoSaid : Prop := fnExactNewPairUptoRow.holds Try.pinned (OpenSpec.upto fnExactNewPairSpec)

/-- 'laws.FnExactGoodPair', WHERE WHAT IT READS IS OF BULK AT MOST 1048576: true; the input reads as it did. -/
def fnExactGoodPairUptoRow : OpenClaim := { program := "ytchddjidjfpehat", sum := "c8225fcfd3b7cd7135a62c98ad25ea2834475d3ec17361ad272ecaa31409fecd", func := "loop.example/g00575/laws.FnExactGoodPair", spec := "fnExactGoodPair", apart := false, narrowed := true }
def FnExactGoodPairUptoSaid : Prop := fnExactGoodPairUptoRow.holds Try.pinned (OpenSpec.upto fnExactGoodPairSpec)

/-- 'laws.FnExactStepPair', WHERE WHAT IT READS IS OF BULK AT MOST 1048576: true; the input reads as it did. -/
def fnExactStepPairUptoRow : OpenClaim := { program := "ytchddjidjfpehat", sum := "c8225fcfd3b7cd7135a62c98ad25ea2834475d3ec17361ad272ecaa31409fecd", func := "loop.example/g00575/laws.FnExactStepPair", spec := "fnExactStepPair", apart := false, narrowed := true }
def FnExactStepPairUptoSaid : Prop := fnExactStepPairUptoRow.holds Try.pinned (OpenSpec.upto fnExactStepPairSpec)

/-- 'laws.FnExactPlayPair', WHERE WHAT IT READS IS OF BULK AT MOST 1048576: true; the input reads as it did. -/
def fnExactPlayPairUptoRow : OpenClaim := { program := "ytchddjidjfpehat", sum := "c8225fcfd3b7cd7135a62c98ad25ea2834475d3ec17361ad272ecaa31409fecd", func := "loop.example/g00575/laws.FnExactPlayPair", spec := "fnExactPlayPair", apart := false, narrowed := true }
def FnExactPlayPairUptoSaid : Prop := fnExactPlayPairUptoRow.holds Try.pinned (OpenSpec.upto fnExactPlayPairSpec)

/-- 'laws.FnExactAreBoth', WHERE WHAT IT READS IS OF BULK AT MOST 1048576: true; the input reads as it did. -/
def fnExactAreBothUptoRow : OpenClaim := { program := "ytchddjidjfpehat", sum := "c8225fcfd3b7cd7135a62c98ad25ea2834475d3ec17361ad272ecaa31409fecd", func := "loop.example/g00575/laws.FnExactAreBoth", spec := "fnExactAreBoth", apart := false, narrowed := true }
def FnExactAreBothUptoSaid : Prop := fnExactAreBothUptoRow.holds Try.pinned (OpenSpec.upto fnExactAreBothSpec)

/-- 'laws.FnExactSettlePair', WHERE WHAT IT READS IS OF BULK AT MOST 1048576: true; the input reads as it did. -/
def fnExactSettlePairUptoRow : OpenClaim := { program := "ytchddjidjfpehat", sum := "c8225fcfd3b7cd7135a62c98ad25ea2834475d3ec17361ad272ecaa31409fecd", func := "loop.example/g00575/laws.FnExactSettlePair", spec := "fnExactSettlePair", apart := false, narrowed := true }
def FnExactSettlePairUptoSaid : Prop := fnExactSettlePairUptoRow.holds Try.pinned (OpenSpec.upto fnExactSettlePairSpec)

end Rows
end Go.Proofs.Ytchddjidjfpehat
