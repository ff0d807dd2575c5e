/-
  NARROWER THAN 'FOR EVERY INPUT', by the rows' own cells (each row's printed sentence says how): FnExactSumOf: laid · FnExactAddSums: laid · FnExactFillSum: laid.
  DERIVED. THE GIVEN ROWS OF THIS SEAT. 3 by the template 'for every input the law returns true; each argument reads behind the call as it read before'; 0 by the template 'total and deterministic' (their statements: YtfeiefgmeleeiaqDoorTotals.lean).
  GIVEN WITH THE SEED: the statements are not yours to turn. If you find one false, say at which input.
  Laid BY PROGRAM, IN A SANDBOX (cutbox-rows.mjs): the forced cells as the released guide's own fill.sh prints them over the translation 8518d6f3e3fae9ff… (all of the seat's roots in one cut). By AI agents, Wed Nov 11 2026. No macro, syntax, notation, axiom, sorry.
-/
import Derived.Test.YtfeiefgmeleeiaqDoorChecked
import GoSem.Claim
import GoSem.ClaimJoined
import GoSem.ClaimMapViews
import Derived.JoinedTies
import Derived.KernelRfl
namespace Go.Proofs.YtfeiefgmeleeiaqDoor
/- THE CELL 'sum', in the pinned program and in every row, IS THE sha256 OF THE DUMP (.gsa) THAT YtfeiefgmeleeiaqDoorProg.lean LOADS. Nothing in Lean hashes anything: it is a label: what it is worth is what the hold of that sum in a sandbox is worth. -/
noncomputable def Tryd.pinned : Pinned := { name := "ytfeiefgmeleeiaqdoor", sum := "8518d6f3e3fae9ffb9d4937e564bdeaaf6ff8ddad8969c3d7658ec5fb7f1ae22", checked := Tryd.checked }
namespace Rows
def none {H : Type} : Left H := { results := [], args := [] }

/- WHAT THE LISTED PACKAGE-LEVEL VARIABLES READ AS WHEN THE CALL BEGINS. Each datum BY PROGRAM (the guide's laid-datum.mjs) off the statement by which the dump's own 'gosem.cut.vars' lays the variable. In a bare row this is a premise. The card (YtfeiefgmeleeiaqDoorCards.lean) ties it to the program's text. -/
def laid_loop_example_g00575_impl_moduli {H : Type} : DataW H := .agg [.lit (.int .i64 32640), .lit (.int .i64 16320), .lit (.int .i64 8160), .lit (.int .i64 4080), .lit (.int .i64 2040), .lit (.int .i64 1020), .lit (.int .i64 510), .lit (.int .i64 255)]

/-- 'laws.FnExactSumOf': WHATEVER THE INPUT: true; the input reads as it did. -/
def fnExactSumOfSpec : ChangeSpec := { name := "fnExactSumOf", vars := ["loop.example/g00575/impl.moduli"], fn := fun _ => fun
  | [d, g1] => { results := [.lit (.bool true)], args := [d], vars := [g1] }
  | _ => none }
def fnExactSumOfRow : OpenClaim := { program := "ytfeiefgmeleeiaqdoor", sum := "8518d6f3e3fae9ffb9d4937e564bdeaaf6ff8ddad8969c3d7658ec5fb7f1ae22", func := "loop.example/g00575/laws.FnExactSumOf", spec := "fnExactSumOf", named := ["loop.example/g00575/impl.moduli"], apart := false, laid := [("loop.example/g00575/impl.moduli", laid_loop_example_g00575_impl_moduli)] }
def FnExactSumOfSaid : Prop := fnExactSumOfRow.holds Tryd.pinned (OpenSpec.ofChange fnExactSumOfSpec)

/-- ITS FALSE NEIGHBOUR: 'it returns false'. Refute it at one input. -/
def fnExactSumOfWrong : ChangeSpec := { name := "fnExactSumOf", vars := ["loop.example/g00575/impl.moduli"], fn := fun _ => fun
  | [d, g1] => { results := [.lit (.bool false)], args := [d], vars := [g1] }
  | _ => none }
def FnExactSumOfWrongFalsely : Prop := fnExactSumOfRow.holds Tryd.pinned (OpenSpec.ofChange fnExactSumOfWrong)

/-- 'laws.FnExactAddSums': WHATEVER THE INPUT: true; the input reads as it did. -/
def fnExactAddSumsSpec : ChangeSpec := { name := "fnExactAddSums", vars := ["loop.example/g00575/impl.moduli"], fn := fun _ => fun
  | [d1, d2, d3, d4, d5, g1] => { results := [.lit (.bool true)], args := [d1, d2, d3, d4, d5], vars := [g1] }
  | _ => none }
def fnExactAddSumsRow : OpenClaim := { program := "ytfeiefgmeleeiaqdoor", sum := "8518d6f3e3fae9ffb9d4937e564bdeaaf6ff8ddad8969c3d7658ec5fb7f1ae22", func := "loop.example/g00575/laws.FnExactAddSums", spec := "fnExactAddSums", named := ["loop.example/g00575/impl.moduli"], apart := false, laid := [("loop.example/g00575/impl.moduli", laid_loop_example_g00575_impl_moduli)] }
def FnExactAddSumsSaid : Prop := fnExactAddSumsRow.holds Tryd.pinned (OpenSpec.ofChange fnExactAddSumsSpec)

/-- ITS FALSE NEIGHBOUR: 'it returns false'. Refute it at one input. -/
def fnExactAddSumsWrong : ChangeSpec := { name := "fnExactAddSums", vars := ["loop.example/g00575/impl.moduli"], fn := fun _ => fun
  | [d1, d2, d3, d4, d5, g1] => { results := [.lit (.bool false)], args := [d1, d2, d3, d4, d5], vars := [g1] }
  | _ => none }
def FnExactAddSumsWrongFalsely : Prop := fnExactAddSumsRow.holds Tryd.pinned (OpenSpec.ofChange fnExactAddSumsWrong)

/-- 'laws.FnExactFillSum': WHATEVER THE INPUT: true; the input reads as it did. -/
def fnExactFillSumSpec : ChangeSpec := { name := "fnExactFillSum", vars := ["loop.example/g00575/impl.moduli"], fn := fun _ => fun
  | [d1, d2, g1] => { results := [.lit (.bool true)], args := [d1, d2], vars := [g1] }
  | _ => none }
def fnExactFillSumRow : OpenClaim := { program := "ytfeiefgmeleeiaqdoor", sum := "8518d6f3e3fae9ffb9d4937e564bdeaaf6ff8ddad8969c3d7658ec5fb7f1ae22", func := "loop.example/g00575/laws.FnExactFillSum", spec := "fnExactFillSum", named := ["loop.example/g00575/impl.moduli"], apart := false, laid := [("loop.example/g00575/impl.moduli", laid_loop_example_g00575_impl_moduli)] }
def FnExactFillSumSaid : Prop := fnExactFillSumRow.holds Tryd.pinned (OpenSpec.ofChange fnExactFillSumSpec)

/-- ITS FALSE NEIGHBOUR: 'it returns false'. Refute it at one input. -/
def fnExactFillSumWrong : ChangeSpec := { name := "fnExactFillSum", vars := ["loop.example/g00575/impl.moduli"], fn := fun _ => fun
  | [d1, d2, g1] => { results := [.lit (.bool false)], args := [d1, d2], vars := [g1] }
  | _ => none }
def FnExactFillSumWrongFalsely : Prop := fnExactFillSumRow.holds Tryd.pinned (OpenSpec.ofChange fnExactFillSumWrong)

/- THE SECOND FORM. 'bulk': how many values and letters a reading holds, each counted each time it is reached (what is shared counts as often as it is met; a slice's spare places count too). A statement '..UptoSaid' is the law's where the arguments, and the package variables that the reading takes, are together of bulk at most 1048576: NARROWER than '..Said'. Prove '..Said' where nothing that the law and all that it calls make is longer than what came in: it says more and counts as full. Else prove '..UptoSaid'. A law counts once. -/
mutual
def uptoBulk {H : Type} : DataW H → Nat
  | .lit (.string bytes) => bytes.length + 1
  | .lit _ => 1
  | .nil => 1
  | .ptr d => uptoBulk d + 1
  | .slice elems spare => uptoBulkAll elems + uptoBulkAll spare + 1
  | .agg parts => uptoBulkAll parts + 1
  | .iface _ d => uptoBulk d + 1
  | .map entries => uptoBulkEntries entries + 1
  | .held _ => 1
def uptoBulkAll {H : Type} : List (DataW H) → Nat
  | [] => 0
  | d :: r => uptoBulk d + uptoBulkAll r
def uptoBulkEntries {H : Type} : List (Lit × DataW H) → Nat
  | [] => 0
  | x :: r => uptoBulkEntry x + uptoBulkEntries r
def uptoBulkEntry {H : Type} : Lit × DataW H → Nat
  | (.string bytes, d) => bytes.length + uptoBulk d + 1
  | (_, d) => uptoBulk d + 1
 end
def uptoSmall : (H : Type) → List (DataW H) → Bool := fun _ ds => decide (uptoBulkAll ds ≤ 1048576)
def OpenSpec.upto (s : _root_.Go.ChangeSpec) : _root_.Go.OpenSpec := { _root_.Go.OpenSpec.ofChange s with cond := some uptoSmall }

/-- 'laws.FnExactSumOf', WHERE WHAT IT READS IS OF BULK AT MOST 1048576: true; the input reads as it did. -/
def fnExactSumOfUptoRow : OpenClaim := { program := "ytfeiefgmeleeiaqdoor", sum := "8518d6f3e3fae9ffb9d4937e564bdeaaf6ff8ddad8969c3d7658ec5fb7f1ae22", func := "loop.example/g00575/laws.FnExactSumOf", spec := "fnExactSumOf", named := ["loop.example/g00575/impl.moduli"], apart := false, laid := [("loop.example/g00575/impl.moduli", laid_loop_example_g00575_impl_moduli)], narrowed := true }
def FnExactSumOfUptoSaid : Prop := fnExactSumOfUptoRow.holds Tryd.pinned (OpenSpec.upto fnExactSumOfSpec)

/-- 'laws.FnExactAddSums', WHERE WHAT IT READS IS OF BULK AT MOST 1048576: true; the input reads as it did. -/
def fnExactAddSumsUptoRow : OpenClaim := { program := "ytfeiefgmeleeiaqdoor", sum := "8518d6f3e3fae9ffb9d4937e564bdeaaf6ff8ddad8969c3d7658ec5fb7f1ae22", func := "loop.example/g00575/laws.FnExactAddSums", spec := "fnExactAddSums", named := ["loop.example/g00575/impl.moduli"], apart := false, laid := [("loop.example/g00575/impl.moduli", laid_loop_example_g00575_impl_moduli)], narrowed := true }
def FnExactAddSumsUptoSaid : Prop := fnExactAddSumsUptoRow.holds Tryd.pinned (OpenSpec.upto fnExactAddSumsSpec)

/-- 'laws.FnExactFillSum', WHERE WHAT IT READS IS OF BULK AT MOST 1048576: true; the input reads as it did. -/
def fnExactFillSumUptoRow : OpenClaim := { program := "ytfeiefgmeleeiaqdoor", sum := "8518d6f3e3fae9ffb9d4937e564bdeaaf6ff8ddad8969c3d7658ec5fb7f1ae22", func := "loop.example/g00575/laws.FnExactFillSum", spec := "fnExactFillSum", named := ["loop.example/g00575/impl.moduli"], apart := false, laid := [("loop.example/g00575/impl.moduli", laid_loop_example_g00575_impl_moduli)], narrowed := true }
def FnExactFillSumUptoSaid : Prop := fnExactFillSumUptoRow.holds Tryd.pinned (OpenSpec.upto fnExactFillSumSpec)

end Rows
end Go.Proofs.YtfeiefgmeleeiaqDoor
