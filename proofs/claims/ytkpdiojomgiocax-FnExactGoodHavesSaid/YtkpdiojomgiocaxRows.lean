/-
  No cell of these rows narrows 'for every input' (looked for: loops, veiled, ifaces, maps, wideKeys, modest, calm, conditions, laid).
  DERIVED. THE GIVEN ROWS OF THIS SEAT. 6 by the template 'for every input the law returns true; each argument reads behind the call as it read before'; 0 by the template 'total and deterministic' (their statements: YtkpdiojomgiocaxTotals.lean).
  GIVEN WITH THE SEED: the statements are not yours to turn. If you find one false, say at which input.
  Laid BY PROGRAM, IN A SANDBOX (cutbox-rows.mjs): the forced cells as the released guide's own fill.sh prints them over the translation 6343c20eb3283a9e… (all of the seat's roots in one cut). By AI agents, Wed Nov 11 2026. No macro, syntax, notation, axiom, sorry.
-/
import Derived.Test.YtkpdiojomgiocaxChecked
import GoSem.Claim
import GoSem.ClaimJoined
import GoSem.ClaimMapViews
import Derived.JoinedTies
import Derived.KernelRfl
namespace Go.Proofs.Ytkpdiojomgiocax
/- THE CELL 'sum', in the pinned program and in every row, IS THE sha256 OF THE DUMP (.gsa) THAT YtkpdiojomgiocaxProg.lean LOADS. Nothing in Lean hashes anything: it is a label: what it is worth is what the hold of that sum in a sandbox is worth. -/
noncomputable def Try.pinned : Pinned := { name := "ytkpdiojomgiocax", sum := "6343c20eb3283a9e6578913abba47953996c5d626ff7636984ce642a94076547", checked := Try.checked }
namespace Rows
def none {H : Type} : Left H := { results := [], args := [] }

/-- 'laws.FnExactStepFlood': WHATEVER THE INPUT: true; the input reads as it did. -/
def fnExactStepFloodSpec : ChangeSpec := { name := "fnExactStepFlood", fn := fun _ => fun
  | [d1, d2] => { results := [.lit (.bool true)], args := [d1, d2] }
  | _ => none }
def fnExactStepFloodRow : OpenClaim := { program := "ytkpdiojomgiocax", sum := "6343c20eb3283a9e6578913abba47953996c5d626ff7636984ce642a94076547", func := "loop.example/g00575/laws.FnExactStepFlood", spec := "fnExactStepFlood", apart := false }
def FnExactStepFloodSaid : Prop := fnExactStepFloodRow.holds Try.pinned (OpenSpec.ofChange fnExactStepFloodSpec)

/-- ITS FALSE NEIGHBOUR: 'it returns false'. Refute it at one input. -/
def fnExactStepFloodWrong : ChangeSpec := { name := "fnExactStepFlood", fn := fun _ => fun
  | [d1, d2] => { results := [.lit (.bool false)], args := [d1, d2] }
  | _ => none }
def FnExactStepFloodWrongFalsely : Prop := fnExactStepFloodRow.holds Try.pinned (OpenSpec.ofChange fnExactStepFloodWrong)

/-- 'laws.FnExactPlayFlood': WHATEVER THE INPUT: true; the input reads as it did. -/
def fnExactPlayFloodSpec : ChangeSpec := { name := "fnExactPlayFlood", fn := fun _ => fun
  | [d1, d2, d3] => { results := [.lit (.bool true)], args := [d1, d2, d3] }
  | _ => none }
def fnExactPlayFloodRow : OpenClaim := { program := "ytkpdiojomgiocax", sum := "6343c20eb3283a9e6578913abba47953996c5d626ff7636984ce642a94076547", func := "loop.example/g00575/laws.FnExactPlayFlood", spec := "fnExactPlayFlood", apart := false }
def FnExactPlayFloodSaid : Prop := fnExactPlayFloodRow.holds Try.pinned (OpenSpec.ofChange fnExactPlayFloodSpec)

/-- ITS FALSE NEIGHBOUR: 'it returns false'. Refute it at one input. -/
def fnExactPlayFloodWrong : ChangeSpec := { name := "fnExactPlayFlood", fn := fun _ => fun
  | [d1, d2, d3] => { results := [.lit (.bool false)], args := [d1, d2, d3] }
  | _ => none }
def FnExactPlayFloodWrongFalsely : Prop := fnExactPlayFloodRow.holds Try.pinned (OpenSpec.ofChange fnExactPlayFloodWrong)

/-- 'laws.FnExactSettleFlood': WHATEVER THE INPUT: true; the input reads as it did. -/
def fnExactSettleFloodSpec : ChangeSpec := { name := "fnExactSettleFlood", fn := fun _ => fun
  | [d] => { results := [.lit (.bool true)], args := [d] }
  | _ => none }
def fnExactSettleFloodRow : OpenClaim := { program := "ytkpdiojomgiocax", sum := "6343c20eb3283a9e6578913abba47953996c5d626ff7636984ce642a94076547", func := "loop.example/g00575/laws.FnExactSettleFlood", spec := "fnExactSettleFlood", apart := false }
def FnExactSettleFloodSaid : Prop := fnExactSettleFloodRow.holds Try.pinned (OpenSpec.ofChange fnExactSettleFloodSpec)

/-- ITS FALSE NEIGHBOUR: 'it returns false'. Refute it at one input. -/
def fnExactSettleFloodWrong : ChangeSpec := { name := "fnExactSettleFlood", fn := fun _ => fun
  | [d] => { results := [.lit (.bool false)], args := [d] }
  | _ => none }
def FnExactSettleFloodWrongFalsely : Prop := fnExactSettleFloodRow.holds Try.pinned (OpenSpec.ofChange fnExactSettleFloodWrong)

/-- 'laws.FnExactAllSame': WHATEVER THE INPUT: true; the input reads as it did. -/
def fnExactAllSameSpec : ChangeSpec := { name := "fnExactAllSame", fn := fun _ => fun
  | [d] => { results := [.lit (.bool true)], args := [d] }
  | _ => none }
def fnExactAllSameRow : OpenClaim := { program := "ytkpdiojomgiocax", sum := "6343c20eb3283a9e6578913abba47953996c5d626ff7636984ce642a94076547", func := "loop.example/g00575/laws.FnExactAllSame", spec := "fnExactAllSame", apart := false }
def FnExactAllSameSaid : Prop := fnExactAllSameRow.holds Try.pinned (OpenSpec.ofChange fnExactAllSameSpec)

/-- ITS FALSE NEIGHBOUR: 'it returns false'. Refute it at one input. -/
def fnExactAllSameWrong : ChangeSpec := { name := "fnExactAllSame", fn := fun _ => fun
  | [d] => { results := [.lit (.bool false)], args := [d] }
  | _ => none }
def FnExactAllSameWrongFalsely : Prop := fnExactAllSameRow.holds Try.pinned (OpenSpec.ofChange fnExactAllSameWrong)

/-- 'laws.FnExactOwedIn': WHATEVER THE INPUT: true; the input reads as it did. -/
def fnExactOwedInSpec : ChangeSpec := { name := "fnExactOwedIn", fn := fun _ => fun
  | [d] => { results := [.lit (.bool true)], args := [d] }
  | _ => none }
def fnExactOwedInRow : OpenClaim := { program := "ytkpdiojomgiocax", sum := "6343c20eb3283a9e6578913abba47953996c5d626ff7636984ce642a94076547", func := "loop.example/g00575/laws.FnExactOwedIn", spec := "fnExactOwedIn", apart := false }
def FnExactOwedInSaid : Prop := fnExactOwedInRow.holds Try.pinned (OpenSpec.ofChange fnExactOwedInSpec)

/-- ITS FALSE NEIGHBOUR: 'it returns false'. Refute it at one input. -/
def fnExactOwedInWrong : ChangeSpec := { name := "fnExactOwedIn", fn := fun _ => fun
  | [d] => { results := [.lit (.bool false)], args := [d] }
  | _ => none }
def FnExactOwedInWrongFalsely : Prop := fnExactOwedInRow.holds Try.pinned (OpenSpec.ofChange fnExactOwedInWrong)

/-- 'laws.FnExactGoodHaves': WHATEVER THE INPUT: true; the input reads as it did. -/
def fnExactGoodHavesSpec : ChangeSpec := { name := "fnExactGoodHaves", fn := fun _ => fun
  | [d] => { results := [.lit (.bool true)], args := [d] }
  | _ => none }
def fnExactGoodHavesRow : OpenClaim := { program := "ytkpdiojomgiocax", sum := "6343c20eb3283a9e6578913abba47953996c5d626ff7636984ce642a94076547", func := "loop.example/g00575/laws.FnExactGoodHaves", spec := "fnExactGoodHaves", apart := false }
def FnExactGoodHavesSaid : Prop := fnExactGoodHavesRow.holds Try.pinned (OpenSpec.ofChange fnExactGoodHavesSpec)

/-- ITS FALSE NEIGHBOUR: 'it returns false'. Refute it at one input. -/
def fnExactGoodHavesWrong : ChangeSpec := { name := "fnExactGoodHaves", fn := fun _ => fun
  | [d] => { results := [.lit (.bool false)], args := [d] }
  | _ => none }
def FnExactGoodHavesWrongFalsely : Prop := fnExactGoodHavesRow.holds Try.pinned (OpenSpec.ofChange fnExactGoodHavesWrong)

/- THE SECOND FORM. 'bulk': how many values and letters a reading holds, each counted each time it is reached (what is shared counts as often as it is met; a slice's spare places count too). A statement '..UptoSaid' is the law's where the arguments, and the package variables that the reading takes, are together of bulk at most 1048576: NARROWER than '..Said'. Prove '..Said' where nothing that the law and all that it calls make is longer than what came in: it says more and counts as full. Else prove '..UptoSaid'. A law counts once. -/
mutual
def uptoBulk {H : Type} : DataW H → Nat
  | .lit (.string bytes) => bytes.length + 1
  | .lit _ => 1
  | .nil => 1
  | .ptr d => uptoBulk d + 1
  | .slice elems spare => uptoBulkAll elems + uptoBulkAll spare + 1
  | .agg parts => uptoBulkAll parts + 1
  | .iface _ d => uptoBulk d + 1
  | .map entries => uptoBulkEntries entries + 1
  | .held _ => 1
def uptoBulkAll {H : Type} : List (DataW H) → Nat
  | [] => 0
  | d :: r => uptoBulk d + uptoBulkAll r
def uptoBulkEntries {H : Type} : List (Lit × DataW H) → Nat
  | [] => 0
  | x :: r => uptoBulkEntry x + uptoBulkEntries r
def uptoBulkEntry {H : Type} : Lit × DataW H → Nat
  | (.string bytes, d) => bytes.length + uptoBulk d + 1
  | (_, d) => uptoBulk d + 1
 end
def uptoSmall : (H : Type) → List (DataW H) → Bool := fun _ ds => decide (uptoBulkAll ds ≤ 1048576)
def OpenSpec.upto (s : _root_.Go.ChangeSpec) : _root_.Go.OpenSpec := { _root_.Go.OpenSpec.ofChange s with cond := some uptoSmall }

/-- 'laws.FnExactStepFlood', WHERE WHAT IT READS IS OF BULK AT MOST 1048576: true; the input reads as it did. -/
def fnExactStepFloodUptoRow : OpenClaim := { program := "ytkpdiojomgiocax", sum := "6343c20eb3283a9e6578913abba47953996c5d626ff7636984ce642a94076547", func := "loop.example/g00575/laws.FnExactStepFlood", spec := "fnExactStepFlood", apart := false, narrowed := true }
def FnExactStepFloodUptoSaid : Prop := fnExactStepFloodUptoRow.holds Try.pinned (OpenSpec.upto fnExactStepFloodSpec)

/-- 'laws.FnExactPlayFlood', WHERE WHAT IT READS IS OF BULK AT MOST 1048576: true; the input reads as it did. -/
def fnExactPlayFloodUptoRow : OpenClaim := { program := "ytkpdiojomgiocax", sum := "6343c20eb3283a9e6578913abba47953996c5d626ff7636984ce642a94076547", func := "loop.example/g00575/laws.FnExactPlayFlood", spec := "fnExactPlayFlood", apart := false, narrowed := true }
def FnExactPlayFloodUptoSaid : Prop := fnExactPlayFloodUptoRow.holds Try.pinned (OpenSpec.upto fnExactPlayFloodSpec)

/-- 'laws.FnExactSettleFlood', WHERE WHAT IT READS IS OF BULK AT MOST 1048576: true; the input reads as it did. -/
def fnExactSettleFloodUptoRow : OpenClaim := { program := "ytkpdiojomgiocax", sum := "6343c20eb3283a9e6578913abba47953996c5d626ff7636984ce642a94076547", func := "loop.example/g00575/laws.FnExactSettleFlood", spec := "fnExactSettleFlood", apart := false, narrowed := true }
def FnExactSettleFloodUptoSaid : Prop := fnExactSettleFloodUptoRow.holds Try.pinned (OpenSpec.upto fnExactSettleFloodSpec)

/-- 'laws.FnExactAllSame', WHERE WHAT IT READS IS OF BULK AT MOST 1048576: true; the input reads as it did. -/
def fnExactAllSameUptoRow : OpenClaim := { program := "ytkpdiojomgiocax", sum := "6343c20eb3283a9e6578913abba47953996c5d626ff7636984ce642a94076547", func := "loop.example/g00575/laws.FnExactAllSame", spec := "fnExactAllSame", apart := false, narrowed := true }
def FnExactAllSameUptoSaid : Prop := fnExactAllSameUptoRow.holds Try.pinned (OpenSpec.upto fnExactAllSameSpec)

/-- 'laws.FnExactOwedIn', WHERE WHAT IT READS IS OF BULK AT MOST 1048576: true; the input reads as it did. -/
def fnExactOwedInUptoRow : OpenClaim := { program := "ytkpdiojomgiocax", sum := "6343c20eb3283a9e6578913abba47953996c5d626ff7636984ce642a94076547", func := "loop.example/g00575/laws.FnExactOwedIn", spec := "fnExactOwedIn", apart := false, narrowed := true }
def FnExactOwedInUptoSaid : Prop := fnExactOwedInUptoRow.holds Try.pinned (OpenSpec.upto fnExactOwedInSpec)

/-- 'laws.FnExactGoodHaves', WHERE WHAT IT READS IS OF BULK AT MOST 1048576: true; the input reads as it did. -/
def fnExactGoodHavesUptoRow : OpenClaim := { program := "ytkpdiojomgiocax", sum := "6343c20eb3283a9e6578913abba47953996c5d626ff7636984ce642a94076547", func := "loop.example/g00575/laws.FnExactGoodHaves", spec := "fnExactGoodHaves", apart := false, narrowed := true }
def FnExactGoodHavesUptoSaid : Prop := fnExactGoodHavesUptoRow.holds Try.pinned (OpenSpec.upto fnExactGoodHavesSpec)

end Rows
end Go.Proofs.Ytkpdiojomgiocax
