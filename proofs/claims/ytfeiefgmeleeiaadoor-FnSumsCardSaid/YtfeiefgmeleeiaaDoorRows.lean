/-
  NARROWER THAN 'FOR EVERY INPUT', by the rows' own cells (each row's printed sentence says how): FnSums: laid · FnFilled: laid.
  DERIVED. THE GIVEN ROWS OF THIS SEAT. 2 by the template 'for every input the law returns true; each argument reads behind the call as it read before'; 0 by the template 'total and deterministic' (their statements: YtfeiefgmeleeiaaDoorTotals.lean).
  GIVEN WITH THE SEED: the statements are not yours to turn. If you find one false, say at which input.
  Laid BY PROGRAM, IN A SANDBOX (cutbox-rows.mjs): the forced cells as the released guide's own fill.sh prints them over the translation 98254369757e96e3… (all of the seat's roots in one cut). By AI agents, Wed Nov 11 2026. No macro, syntax, notation, axiom, sorry.
-/
import Derived.Test.YtfeiefgmeleeiaaDoorChecked
import GoSem.Claim
import GoSem.ClaimJoined
import GoSem.ClaimMapViews
import Derived.JoinedTies
import Derived.KernelRfl
namespace Go.Proofs.YtfeiefgmeleeiaaDoor
/- THE CELL 'sum', in the pinned program and in every row, IS THE sha256 OF THE DUMP (.gsa) THAT YtfeiefgmeleeiaaDoorProg.lean LOADS. Nothing in Lean hashes anything: it is a label: what it is worth is what the hold of that sum in a sandbox is worth. -/
noncomputable def Tryd.pinned : Pinned := { name := "ytfeiefgmeleeiaadoor", sum := "98254369757e96e3131593ad79f89aa63465857de75680a04a4286f40ae7070d", checked := Tryd.checked }
namespace Rows
def none {H : Type} : Left H := { results := [], args := [] }

/- WHAT THE LISTED PACKAGE-LEVEL VARIABLES READ AS WHEN THE CALL BEGINS. Each datum BY PROGRAM (the guide's laid-datum.mjs) off the statement by which the dump's own 'gosem.cut.vars' lays the variable. In a bare row this is a premise. The card (YtfeiefgmeleeiaaDoorCards.lean) ties it to the program's text. -/
def laid_loop_example_g00575_impl_moduli {H : Type} : DataW H := .agg [.lit (.int .i64 32640), .lit (.int .i64 16320), .lit (.int .i64 8160), .lit (.int .i64 4080), .lit (.int .i64 2040), .lit (.int .i64 1020), .lit (.int .i64 510), .lit (.int .i64 255)]

/-- 'laws.FnSums': WHATEVER THE INPUT: true; the input reads as it did. -/
def fnSumsSpec : ChangeSpec := { name := "fnSums", vars := ["loop.example/g00575/impl.moduli"], fn := fun _ => fun
  | [d1, d2, g1] => { results := [.lit (.bool true)], args := [d1, d2], vars := [g1] }
  | _ => none }
def fnSumsRow : OpenClaim := { program := "ytfeiefgmeleeiaadoor", sum := "98254369757e96e3131593ad79f89aa63465857de75680a04a4286f40ae7070d", func := "loop.example/g00575/laws.FnSums", spec := "fnSums", named := ["loop.example/g00575/impl.moduli"], apart := false, laid := [("loop.example/g00575/impl.moduli", laid_loop_example_g00575_impl_moduli)] }
def FnSumsSaid : Prop := fnSumsRow.holds Tryd.pinned (OpenSpec.ofChange fnSumsSpec)

/-- ITS FALSE NEIGHBOUR: 'it returns false'. Refute it at one input. -/
def fnSumsWrong : ChangeSpec := { name := "fnSums", vars := ["loop.example/g00575/impl.moduli"], fn := fun _ => fun
  | [d1, d2, g1] => { results := [.lit (.bool false)], args := [d1, d2], vars := [g1] }
  | _ => none }
def FnSumsWrongFalsely : Prop := fnSumsRow.holds Tryd.pinned (OpenSpec.ofChange fnSumsWrong)

/-- 'laws.FnFilled': WHATEVER THE INPUT: true; the input reads as it did. -/
def fnFilledSpec : ChangeSpec := { name := "fnFilled", vars := ["loop.example/g00575/impl.moduli"], fn := fun _ => fun
  | [d1, d2, g1] => { results := [.lit (.bool true)], args := [d1, d2], vars := [g1] }
  | _ => none }
def fnFilledRow : OpenClaim := { program := "ytfeiefgmeleeiaadoor", sum := "98254369757e96e3131593ad79f89aa63465857de75680a04a4286f40ae7070d", func := "loop.example/g00575/laws.FnFilled", spec := "fnFilled", named := ["loop.example/g00575/impl.moduli"], apart := false, laid := [("loop.example/g00575/impl.moduli", laid_loop_example_g00575_impl_moduli)] }
def FnFilledSaid : Prop := fnFilledRow.holds Tryd.pinned (OpenSpec.ofChange fnFilledSpec)

/-- ITS FALSE NEIGHBOUR: 'it returns false'. Refute it at one input. -/
def fnFilledWrong : ChangeSpec := { name := "fnFilled", vars := ["loop.example/g00575/impl.moduli"], fn := fun _ => fun
  | [d1, d2, g1] => { results := [.lit (.bool false)], args := [d1, d2], vars := [g1] }
  | _ => none }
def FnFilledWrongFalsely : Prop := fnFilledRow.holds Tryd.pinned (OpenSpec.ofChange fnFilledWrong)

/- THE SECOND FORM. 'bulk': how many values and letters a reading holds, each counted each time it is reached (what is shared counts as often as it is met; a slice's spare places count too). A statement '..UptoSaid' is the law's where the arguments, and the package variables that the reading takes, are together of bulk at most 1048576: NARROWER than '..Said'. Prove '..Said' where nothing that the law and all that it calls make is longer than what came in: it says more and counts as full. Else prove '..UptoSaid'. A law counts once. -/
mutual
def uptoBulk {H : Type} : DataW H → Nat
  | .lit (.string bytes) => bytes.length + 1
  | .lit _ => 1
  | .nil => 1
  | .ptr d => uptoBulk d + 1
  | .slice elems spare => uptoBulkAll elems + uptoBulkAll spare + 1
  | .agg parts => uptoBulkAll parts + 1
  | .iface _ d => uptoBulk d + 1
  | .map entries => uptoBulkEntries entries + 1
  | .held _ => 1
def uptoBulkAll {H : Type} : List (DataW H) → Nat
  | [] => 0
  | d :: r => uptoBulk d + uptoBulkAll r
def uptoBulkEntries {H : Type} : List (Lit × DataW H) → Nat
  | [] => 0
  | x :: r => uptoBulkEntry x + uptoBulkEntries r
def uptoBulkEntry {H : Type} : Lit × DataW H → Nat
  | (.string bytes, d) => bytes.length + uptoBulk d + 1
  | (_, d) => uptoBulk d + 1
 end
def uptoSmall : (H : Type) → List (DataW H) → Bool := fun _ ds => decide (uptoBulkAll ds ≤ 1048576)
def OpenSpec.upto (s : _root_.Go.ChangeSpec) : _root_.Go.OpenSpec := { _root_.Go.OpenSpec.ofChange s with cond := some uptoSmall }

/-- 'laws.FnSums', WHERE WHAT IT READS IS OF BULK AT MOST 1048576: true; the input reads as it did. -/
def fnSumsUptoRow : OpenClaim := { program := "ytfeiefgmeleeiaadoor", sum := "98254369757e96e3131593ad79f89aa63465857de75680a04a4286f40ae7070d", func := "loop.example/g00575/laws.FnSums", spec := "fnSums", named := ["loop.example/g00575/impl.moduli"], apart := false, laid := [("loop.example/g00575/impl.moduli", laid_loop_example_g00575_impl_moduli)], narrowed := true }
def FnSumsUptoSaid : Prop := fnSumsUptoRow.holds Tryd.pinned (OpenSpec.upto fnSumsSpec)

/-- 'laws.FnFilled', WHERE WHAT IT READS IS OF BULK AT MOST 1048576: true; the input reads as it did. -/
def fnFilledUptoRow : OpenClaim := { program := "ytfeiefgmeleeiaadoor", sum := "98254369757e96e3131593ad79f89aa63465857de75680a04a4286f40ae7070d", func := "loop.example/g00575/laws.FnFilled", spec := "fnFilled", named := ["loop.example/g00575/impl.moduli"], apart := false, laid := [("loop.example/g00575/impl.moduli", laid_loop_example_g00575_impl_moduli)], narrowed := true }
def FnFilledUptoSaid : Prop := fnFilledUptoRow.holds Tryd.pinned (OpenSpec.upto fnFilledSpec)

end Rows
end Go.Proofs.YtfeiefgmeleeiaaDoor
