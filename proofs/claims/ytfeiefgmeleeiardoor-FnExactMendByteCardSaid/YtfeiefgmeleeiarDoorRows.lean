/-
  NARROWER THAN 'FOR EVERY INPUT', by the rows' own cells (each row's printed sentence says how): FnExactIsWhole: laid · FnExactMendByte: laid.
  DERIVED. THE GIVEN ROWS OF THIS SEAT. 2 by the template 'for every input the law returns true; each argument reads behind the call as it read before'; 0 by the template 'total and deterministic' (their statements: YtfeiefgmeleeiarDoorTotals.lean).
  GIVEN WITH THE SEED: the statements are not yours to turn. If you find one false, say at which input.
  Laid BY PROGRAM, IN A SANDBOX (cutbox-rows.mjs): the forced cells as the released guide's own fill.sh prints them over the translation 43b65b0ad44909f1… (all of the seat's roots in one cut). By AI agents, Wed Nov 11 2026. No macro, syntax, notation, axiom, sorry.
-/
import Derived.Test.YtfeiefgmeleeiarDoorChecked
import GoSem.Claim
import GoSem.ClaimJoined
import GoSem.ClaimMapViews
import Derived.JoinedTies
import Derived.KernelRfl
namespace Go.Proofs.YtfeiefgmeleeiarDoor
/- THE CELL 'sum', in the pinned program and in every row, IS THE sha256 OF THE DUMP (.gsa) THAT YtfeiefgmeleeiarDoorProg.lean LOADS. Nothing in Lean hashes anything: it is a label: what it is worth is what the hold of that sum in a sandbox is worth. -/
noncomputable def Tryd.pinned : Pinned := { name := "ytfeiefgmeleeiardoor", sum := "43b65b0ad44909f149a6158b6d3e3da2e6781bb777204d2eb6bd18876723b6f5", checked := Tryd.checked }
namespace Rows
def none {H : Type} : Left H := { results := [], args := [] }

/- WHAT THE LISTED PACKAGE-LEVEL VARIABLES READ AS WHEN THE CALL BEGINS. Each datum BY PROGRAM (the guide's laid-datum.mjs) off the statement by which the dump's own 'gosem.cut.vars' lays the variable. In a bare row this is a premise. The card (YtfeiefgmeleeiarDoorCards.lean) ties it to the program's text. -/
def laid_loop_example_g00575_impl_moduli {H : Type} : DataW H := .agg [.lit (.int .i64 32640), .lit (.int .i64 16320), .lit (.int .i64 8160), .lit (.int .i64 4080), .lit (.int .i64 2040), .lit (.int .i64 1020), .lit (.int .i64 510), .lit (.int .i64 255)]

/-- 'laws.FnExactIsWhole': WHATEVER THE INPUT: true; the input reads as it did. -/
def fnExactIsWholeSpec : ChangeSpec := { name := "fnExactIsWhole", vars := ["loop.example/g00575/impl.moduli"], fn := fun _ => fun
  | [d, g1] => { results := [.lit (.bool true)], args := [d], vars := [g1] }
  | _ => none }
def fnExactIsWholeRow : OpenClaim := { program := "ytfeiefgmeleeiardoor", sum := "43b65b0ad44909f149a6158b6d3e3da2e6781bb777204d2eb6bd18876723b6f5", func := "loop.example/g00575/laws.FnExactIsWhole", spec := "fnExactIsWhole", named := ["loop.example/g00575/impl.moduli"], apart := false, laid := [("loop.example/g00575/impl.moduli", laid_loop_example_g00575_impl_moduli)] }
def FnExactIsWholeSaid : Prop := fnExactIsWholeRow.holds Tryd.pinned (OpenSpec.ofChange fnExactIsWholeSpec)

/-- ITS FALSE NEIGHBOUR: 'it returns false'. Refute it at one input. -/
def fnExactIsWholeWrong : ChangeSpec := { name := "fnExactIsWhole", vars := ["loop.example/g00575/impl.moduli"], fn := fun _ => fun
  | [d, g1] => { results := [.lit (.bool false)], args := [d], vars := [g1] }
  | _ => none }
def FnExactIsWholeWrongFalsely : Prop := fnExactIsWholeRow.holds Tryd.pinned (OpenSpec.ofChange fnExactIsWholeWrong)

/-- 'laws.FnExactMendByte': WHATEVER THE INPUT: true; the input reads as it did. -/
def fnExactMendByteSpec : ChangeSpec := { name := "fnExactMendByte", vars := ["loop.example/g00575/impl.moduli"], fn := fun _ => fun
  | [d1, d2, g1] => { results := [.lit (.bool true)], args := [d1, d2], vars := [g1] }
  | _ => none }
def fnExactMendByteRow : OpenClaim := { program := "ytfeiefgmeleeiardoor", sum := "43b65b0ad44909f149a6158b6d3e3da2e6781bb777204d2eb6bd18876723b6f5", func := "loop.example/g00575/laws.FnExactMendByte", spec := "fnExactMendByte", named := ["loop.example/g00575/impl.moduli"], apart := false, laid := [("loop.example/g00575/impl.moduli", laid_loop_example_g00575_impl_moduli)] }
def FnExactMendByteSaid : Prop := fnExactMendByteRow.holds Tryd.pinned (OpenSpec.ofChange fnExactMendByteSpec)

/-- ITS FALSE NEIGHBOUR: 'it returns false'. Refute it at one input. -/
def fnExactMendByteWrong : ChangeSpec := { name := "fnExactMendByte", vars := ["loop.example/g00575/impl.moduli"], fn := fun _ => fun
  | [d1, d2, g1] => { results := [.lit (.bool false)], args := [d1, d2], vars := [g1] }
  | _ => none }
def FnExactMendByteWrongFalsely : Prop := fnExactMendByteRow.holds Tryd.pinned (OpenSpec.ofChange fnExactMendByteWrong)

/- THE SECOND FORM. 'bulk': how many values and letters a reading holds, each counted each time it is reached (what is shared counts as often as it is met; a slice's spare places count too). A statement '..UptoSaid' is the law's where the arguments, and the package variables that the reading takes, are together of bulk at most 1048576: NARROWER than '..Said'. Prove '..Said' where nothing that the law and all that it calls make is longer than what came in: it says more and counts as full. Else prove '..UptoSaid'. A law counts once. -/
mutual
def uptoBulk {H : Type} : DataW H → Nat
  | .lit (.string bytes) => bytes.length + 1
  | .lit _ => 1
  | .nil => 1
  | .ptr d => uptoBulk d + 1
  | .slice elems spare => uptoBulkAll elems + uptoBulkAll spare + 1
  | .agg parts => uptoBulkAll parts + 1
  | .iface _ d => uptoBulk d + 1
  | .map entries => uptoBulkEntries entries + 1
  | .held _ => 1
def uptoBulkAll {H : Type} : List (DataW H) → Nat
  | [] => 0
  | d :: r => uptoBulk d + uptoBulkAll r
def uptoBulkEntries {H : Type} : List (Lit × DataW H) → Nat
  | [] => 0
  | x :: r => uptoBulkEntry x + uptoBulkEntries r
def uptoBulkEntry {H : Type} : Lit × DataW H → Nat
  | (.string bytes, d) => bytes.length + uptoBulk d + 1
  | (_, d) => uptoBulk d + 1
 end
def uptoSmall : (H : Type) → List (DataW H) → Bool := fun _ ds => decide (uptoBulkAll ds ≤ 1048576)
def OpenSpec.upto (s : _root_.Go.ChangeSpec) : _root_.Go.OpenSpec := { _root_.Go.OpenSpec.ofChange s with cond := some uptoSmall }

/-- 'laws.FnExactIsWhole', WHERE WHAT IT READS IS OF BULK AT MOST 1048576: true; the input reads as it did. -/
def fnExactIsWholeUptoRow : OpenClaim := { program := "ytfeiefgmeleeiardoor", sum := "43b65b0ad44909f149a6158b6d3e3da2e6781bb777204d2eb6bd18876723b6f5", func := "loop.example/g00575/laws.FnExactIsWhole", spec := "fnExactIsWhole", named := ["loop.example/g00575/impl.moduli"], apart := false, laid := [("loop.example/g00575/impl.moduli", laid_loop_example_g00575_impl_moduli)], narrowed := true }
def FnExactIsWholeUptoSaid : Prop := fnExactIsWholeUptoRow.holds Tryd.pinned (OpenSpec.upto fnExactIsWholeSpec)

/-- 'laws.FnExactMendByte', WHERE WHAT IT READS IS OF BULK AT MOST 1048576: true; the input reads as it did. -/
def fnExactMendByteUptoRow : OpenClaim := { program := "ytfeiefgmeleeiardoor", sum := "43b65b0ad44909f149a6158b6d3e3da2e6781bb777204d2eb6bd18876723b6f5", func := "loop.example/g00575/laws.FnExactMendByte", spec := "fnExactMendByte", named := ["loop.example/g00575/impl.moduli"], apart := false, laid := [("loop.example/g00575/impl.moduli", laid_loop_example_g00575_impl_moduli)], narrowed := true }
def FnExactMendByteUptoSaid : Prop := fnExactMendByteUptoRow.holds Tryd.pinned (OpenSpec.upto fnExactMendByteSpec)

end Rows
end Go.Proofs.YtfeiefgmeleeiarDoor
