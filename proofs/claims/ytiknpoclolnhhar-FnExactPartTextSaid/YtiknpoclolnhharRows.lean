/-
  No cell of these rows narrows 'for every input' (looked for: loops, veiled, ifaces, maps, wideKeys, modest, calm, conditions, laid).
  DERIVED. THE GIVEN ROWS OF THIS SEAT. 4 by the template 'for every input the law returns true; each argument reads behind the call as it read before'; 0 by the template 'total and deterministic' (their statements: YtiknpoclolnhharTotals.lean).
  GIVEN WITH THE SEED: the statements are not yours to turn. If you find one false, say at which input.
  Laid BY PROGRAM, IN A SANDBOX (cutbox-rows.mjs): the forced cells as the released guide's own fill.sh prints them over the translation 1e9d98544aafc343… (all of the seat's roots in one cut). By AI agents, Wed Nov 11 2026. No macro, syntax, notation, axiom, sorry.
-/
import Derived.Test.YtiknpoclolnhharChecked
import GoSem.Claim
import GoSem.ClaimJoined
import GoSem.ClaimMapViews
import Derived.JoinedTies
import Derived.KernelRfl
namespace Go.Proofs.Ytiknpoclolnhhar
/- THE CELL 'sum', in the pinned program and in every row, IS THE sha256 OF THE DUMP (.gsa) THAT YtiknpoclolnhharProg.lean LOADS. Nothing in Lean hashes anything: it is a label: what it is worth is what the hold of that sum in a sandbox is worth. -/
noncomputable def Try.pinned : Pinned := { name := "ytiknpoclolnhhar", sum := "1e9d98544aafc343582edbbbd5bb7b2b3edaff0da053d064a043bdf1bb021fce", checked := Try.checked }
namespace Rows
def none {H : Type} : Left H := { results := [], args := [] }

/-- 'laws.FnExactSwapTwo': WHATEVER THE INPUT: true; the input reads as it did. -/
def fnExactSwapTwoSpec : ChangeSpec := { name := "fnExactSwapTwo", fn := fun _ => fun
  | [d1, d2] => { results := [.lit (.bool true)], args := [d1, d2] }
  | _ => none }
def fnExactSwapTwoRow : OpenClaim := { program := "ytiknpoclolnhhar", sum := "1e9d98544aafc343582edbbbd5bb7b2b3edaff0da053d064a043bdf1bb021fce", func := "loop.example/g00575/laws.FnExactSwapTwo", spec := "fnExactSwapTwo", apart := false }
def FnExactSwapTwoSaid : Prop := fnExactSwapTwoRow.holds Try.pinned (OpenSpec.ofChange fnExactSwapTwoSpec)

/-- ITS FALSE NEIGHBOUR: 'it returns false'. Refute it at one input. -/
def fnExactSwapTwoWrong : ChangeSpec := { name := "fnExactSwapTwo", fn := fun _ => fun
  | [d1, d2] => { results := [.lit (.bool false)], args := [d1, d2] }
  | _ => none }
def FnExactSwapTwoWrongFalsely : Prop := fnExactSwapTwoRow.holds Try.pinned (OpenSpec.ofChange fnExactSwapTwoWrong)

/-- 'laws.FnExactWeightAt': WHATEVER THE INPUT: true; the input reads as it did. -/
def fnExactWeightAtSpec : ChangeSpec := { name := "fnExactWeightAt", fn := fun _ => fun
  | [d1, d2] => { results := [.lit (.bool true)], args := [d1, d2] }
  | _ => none }
def fnExactWeightAtRow : OpenClaim := { program := "ytiknpoclolnhhar", sum := "1e9d98544aafc343582edbbbd5bb7b2b3edaff0da053d064a043bdf1bb021fce", func := "loop.example/g00575/laws.FnExactWeightAt", spec := "fnExactWeightAt", apart := false }
def FnExactWeightAtSaid : Prop := fnExactWeightAtRow.holds Try.pinned (OpenSpec.ofChange fnExactWeightAtSpec)

/-- ITS FALSE NEIGHBOUR: 'it returns false'. Refute it at one input. -/
def fnExactWeightAtWrong : ChangeSpec := { name := "fnExactWeightAt", fn := fun _ => fun
  | [d1, d2] => { results := [.lit (.bool false)], args := [d1, d2] }
  | _ => none }
def FnExactWeightAtWrongFalsely : Prop := fnExactWeightAtRow.holds Try.pinned (OpenSpec.ofChange fnExactWeightAtWrong)

/-- 'laws.FnExactGoodPart': WHATEVER THE INPUT: true; the input reads as it did. -/
def fnExactGoodPartSpec : ChangeSpec := { name := "fnExactGoodPart", fn := fun _ => fun
  | [d] => { results := [.lit (.bool true)], args := [d] }
  | _ => none }
def fnExactGoodPartRow : OpenClaim := { program := "ytiknpoclolnhhar", sum := "1e9d98544aafc343582edbbbd5bb7b2b3edaff0da053d064a043bdf1bb021fce", func := "loop.example/g00575/laws.FnExactGoodPart", spec := "fnExactGoodPart", unfollowed := true, recurses := true, apart := false }
def FnExactGoodPartSaid : Prop := fnExactGoodPartRow.holds Try.pinned (OpenSpec.ofChange fnExactGoodPartSpec)

/-- ITS FALSE NEIGHBOUR: 'it returns false'. Refute it at one input. -/
def fnExactGoodPartWrong : ChangeSpec := { name := "fnExactGoodPart", fn := fun _ => fun
  | [d] => { results := [.lit (.bool false)], args := [d] }
  | _ => none }
def FnExactGoodPartWrongFalsely : Prop := fnExactGoodPartRow.holds Try.pinned (OpenSpec.ofChange fnExactGoodPartWrong)

/-- 'laws.FnExactPartText': WHATEVER THE INPUT: true; the input reads as it did. -/
def fnExactPartTextSpec : ChangeSpec := { name := "fnExactPartText", fn := fun _ => fun
  | [d] => { results := [.lit (.bool true)], args := [d] }
  | _ => none }
def fnExactPartTextRow : OpenClaim := { program := "ytiknpoclolnhhar", sum := "1e9d98544aafc343582edbbbd5bb7b2b3edaff0da053d064a043bdf1bb021fce", func := "loop.example/g00575/laws.FnExactPartText", spec := "fnExactPartText", unfollowed := true, recurses := true, apart := false }
def FnExactPartTextSaid : Prop := fnExactPartTextRow.holds Try.pinned (OpenSpec.ofChange fnExactPartTextSpec)

/-- ITS FALSE NEIGHBOUR: 'it returns false'. Refute it at one input. -/
def fnExactPartTextWrong : ChangeSpec := { name := "fnExactPartText", fn := fun _ => fun
  | [d] => { results := [.lit (.bool false)], args := [d] }
  | _ => none }
def FnExactPartTextWrongFalsely : Prop := fnExactPartTextRow.holds Try.pinned (OpenSpec.ofChange fnExactPartTextWrong)

/- THE SECOND FORM. 'bulk': how many values and letters a reading holds, each counted each time it is reached (what is shared counts as often as it is met; a slice's spare places count too). A statement '..UptoSaid' is the law's where the arguments, and the package variables that the reading takes, are together of bulk at most 1048576: NARROWER than '..Said'. Prove '..Said' where nothing that the law and all that it calls make is longer than what came in: it says more and counts as full. Else prove '..UptoSaid'. A law counts once. -/
mutual
def uptoBulk {H : Type} : DataW H → Nat
  | .lit (.string bytes) => bytes.length + 1
  | .lit _ => 1
  | .nil => 1
  | .ptr d => uptoBulk d + 1
  | .slice elems spare => uptoBulkAll elems + uptoBulkAll spare + 1
  | .agg parts => uptoBulkAll parts + 1
  | .iface _ d => uptoBulk d + 1
  | .map entries => uptoBulkEntries entries + 1
  | .held _ => 1
def uptoBulkAll {H : Type} : List (DataW H) → Nat
  | [] => 0
  | d :: r => uptoBulk d + uptoBulkAll r
def uptoBulkEntries {H : Type} : List (Lit × DataW H) → Nat
  | [] => 0
  | x :: r => uptoBulkEntry x + uptoBulkEntries r
def uptoBulkEntry {H : Type} : Lit × DataW H → Nat
  | (.string bytes, d) => bytes.length + uptoBulk d + 1
  | (_, d) => uptoBulk d + 1
 end
def uptoSmall : (H : Type) → List (DataW H) → Bool := fun _ ds => decide (uptoBulkAll ds ≤ 1048576)
def OpenSpec.upto (s : _root_.Go.ChangeSpec) : _root_.Go.OpenSpec := { _root_.Go.OpenSpec.ofChange s with cond := some uptoSmall }

/-- 'laws.FnExactSwapTwo', WHERE WHAT IT READS IS OF BULK AT MOST 1048576: true; the input reads as it did. -/
def fnExactSwapTwoUptoRow : OpenClaim := { program := "ytiknpoclolnhhar", sum := "1e9d98544aafc343582edbbbd5bb7b2b3edaff0da053d064a043bdf1bb021fce", func := "loop.example/g00575/laws.FnExactSwapTwo", spec := "fnExactSwapTwo", apart := false, narrowed := true }
def FnExactSwapTwoUptoSaid : Prop := fnExactSwapTwoUptoRow.holds Try.pinned (OpenSpec.upto fnExactSwapTwoSpec)

/-- 'laws.FnExactWeightAt', WHERE WHAT IT READS IS OF BULK AT MOST 1048576: true; the input reads as it did. -/
def fnExactWeightAtUptoRow : OpenClaim := { program := "ytiknpoclolnhhar", sum := "1e9d98544aafc343582edbbbd5bb7b2b3edaff0da053d064a043bdf1bb021fce", func := "loop.example/g00575/laws.FnExactWeightAt", spec := "fnExactWeightAt", apart := false, narrowed := true }
def FnExactWeightAtUptoSaid : Prop := fnExactWeightAtUptoRow.holds Try.pinned (OpenSpec.upto fnExactWeightAtSpec)

/-- 'laws.FnExactGoodPart', WHERE WHAT IT READS IS OF BULK AT MOST 1048576: true; the input reads as it did. -/
def fnExactGoodPartUptoRow : OpenClaim := { program := "ytiknpoclolnhhar", sum := "1e9d98544aafc343582edbbbd5bb7b2b3edaff0da053d064a043bdf1bb021fce", func := "loop.example/g00575/laws.FnExactGoodPart", spec := "fnExactGoodPart", unfollowed := true, recurses := true, apart := false, narrowed := true }
def FnExactGoodPartUptoSaid : Prop := fnExactGoodPartUptoRow.holds Try.pinned (OpenSpec.upto fnExactGoodPartSpec)

/-- 'laws.FnExactPartText', WHERE WHAT IT READS IS OF BULK AT MOST 1048576: true; the input reads as it did. -/
def fnExactPartTextUptoRow : OpenClaim := { program := "ytiknpoclolnhhar", sum := "1e9d98544aafc343582edbbbd5bb7b2b3edaff0da053d064a043bdf1bb021fce", func := "loop.example/g00575/laws.FnExactPartText", spec := "fnExactPartText", unfollowed := true, recurses := true, apart := false, narrowed := true }
def FnExactPartTextUptoSaid : Prop := fnExactPartTextUptoRow.holds Try.pinned (OpenSpec.upto fnExactPartTextSpec)

end Rows
end Go.Proofs.Ytiknpoclolnhhar
