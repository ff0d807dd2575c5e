/-
  No cell of these rows narrows 'for every input' (looked for: loops, veiled, ifaces, maps, wideKeys, modest, calm, conditions, laid).
  DERIVED. THE GIVEN ROWS OF THIS SEAT. 6 by the template 'for every input the law returns true; each argument reads behind the call as it read before'; 0 by the template 'total and deterministic' (their statements: YtkkamigaolejiawTotals.lean).
  GIVEN WITH THE SEED: the statements are not yours to turn. If you find one false, say at which input.
  Laid BY PROGRAM, IN A SANDBOX (cutbox-rows.mjs): the forced cells as the released guide's own fill.sh prints them over the translation 9fdd785a77e82eaa… (all of the seat's roots in one cut). By AI agents, Wed Nov 11 2026. No macro, syntax, notation, axiom, sorry.
-/
import Derived.Test.YtkkamigaolejiawChecked
import GoSem.Claim
import GoSem.ClaimJoined
import GoSem.ClaimMapViews
import Derived.JoinedTies
import Derived.KernelRfl
namespace Go.Proofs.Ytkkamigaolejiaw
/- THE CELL 'sum', in the pinned program and in every row, IS THE sha256 OF THE DUMP (.gsa) THAT YtkkamigaolejiawProg.lean LOADS. Nothing in Lean hashes anything: it is a label: what it is worth is what the hold of that sum in a sandbox is worth. -/
noncomputable def Try.pinned : Pinned := { name := "ytkkamigaolejiaw", sum := "9fdd785a77e82eaa45fcc89a529fd975f8d0fd2d602b78ad498d74e431948e2b", checked := Try.checked }
namespace Rows
def none {H : Type} : Left H := { results := [], args := [] }

/-- 'laws.FnExactBetter': WHATEVER THE INPUT: true; the input reads as it did. -/
def fnExactBetterSpec : ChangeSpec := { name := "fnExactBetter", fn := fun _ => fun
  | [d1, d2] => { results := [.lit (.bool true)], args := [d1, d2] }
  | _ => none }
def fnExactBetterRow : OpenClaim := { program := "ytkkamigaolejiaw", sum := "9fdd785a77e82eaa45fcc89a529fd975f8d0fd2d602b78ad498d74e431948e2b", func := "loop.example/g00575/laws.FnExactBetter", spec := "fnExactBetter", apart := false }
def FnExactBetterSaid : Prop := fnExactBetterRow.holds Try.pinned (OpenSpec.ofChange fnExactBetterSpec)

/-- ITS FALSE NEIGHBOUR: 'it returns false'. Refute it at one input. -/
def fnExactBetterWrong : ChangeSpec := { name := "fnExactBetter", fn := fun _ => fun
  | [d1, d2] => { results := [.lit (.bool false)], args := [d1, d2] }
  | _ => none }
def FnExactBetterWrongFalsely : Prop := fnExactBetterRow.holds Try.pinned (OpenSpec.ofChange fnExactBetterWrong)

/-- 'laws.FnExactAgeItem': WHATEVER THE INPUT: true; the input reads as it did. -/
def fnExactAgeItemSpec : ChangeSpec := { name := "fnExactAgeItem", fn := fun _ => fun
  | [d1, d2] => { results := [.lit (.bool true)], args := [d1, d2] }
  | _ => none }
def fnExactAgeItemRow : OpenClaim := { program := "ytkkamigaolejiaw", sum := "9fdd785a77e82eaa45fcc89a529fd975f8d0fd2d602b78ad498d74e431948e2b", func := "loop.example/g00575/laws.FnExactAgeItem", spec := "fnExactAgeItem", apart := false }
def FnExactAgeItemSaid : Prop := fnExactAgeItemRow.holds Try.pinned (OpenSpec.ofChange fnExactAgeItemSpec)

/-- ITS FALSE NEIGHBOUR: 'it returns false'. Refute it at one input. -/
def fnExactAgeItemWrong : ChangeSpec := { name := "fnExactAgeItem", fn := fun _ => fun
  | [d1, d2] => { results := [.lit (.bool false)], args := [d1, d2] }
  | _ => none }
def FnExactAgeItemWrongFalsely : Prop := fnExactAgeItemRow.holds Try.pinned (OpenSpec.ofChange fnExactAgeItemWrong)

/-- 'laws.FnExactNewestOf': WHATEVER THE INPUT: true; the input reads as it did. -/
def fnExactNewestOfSpec : ChangeSpec := { name := "fnExactNewestOf", fn := fun _ => fun
  | [d] => { results := [.lit (.bool true)], args := [d] }
  | _ => none }
def fnExactNewestOfRow : OpenClaim := { program := "ytkkamigaolejiaw", sum := "9fdd785a77e82eaa45fcc89a529fd975f8d0fd2d602b78ad498d74e431948e2b", func := "loop.example/g00575/laws.FnExactNewestOf", spec := "fnExactNewestOf", apart := false }
def FnExactNewestOfSaid : Prop := fnExactNewestOfRow.holds Try.pinned (OpenSpec.ofChange fnExactNewestOfSpec)

/-- ITS FALSE NEIGHBOUR: 'it returns false'. Refute it at one input. -/
def fnExactNewestOfWrong : ChangeSpec := { name := "fnExactNewestOf", fn := fun _ => fun
  | [d] => { results := [.lit (.bool false)], args := [d] }
  | _ => none }
def FnExactNewestOfWrongFalsely : Prop := fnExactNewestOfRow.holds Try.pinned (OpenSpec.ofChange fnExactNewestOfWrong)

/-- 'laws.FnExactFitsRing': WHATEVER THE INPUT: true; the input reads as it did. -/
def fnExactFitsRingSpec : ChangeSpec := { name := "fnExactFitsRing", fn := fun _ => fun
  | [d] => { results := [.lit (.bool true)], args := [d] }
  | _ => none }
def fnExactFitsRingRow : OpenClaim := { program := "ytkkamigaolejiaw", sum := "9fdd785a77e82eaa45fcc89a529fd975f8d0fd2d602b78ad498d74e431948e2b", func := "loop.example/g00575/laws.FnExactFitsRing", spec := "fnExactFitsRing", apart := false }
def FnExactFitsRingSaid : Prop := fnExactFitsRingRow.holds Try.pinned (OpenSpec.ofChange fnExactFitsRingSpec)

/-- ITS FALSE NEIGHBOUR: 'it returns false'. Refute it at one input. -/
def fnExactFitsRingWrong : ChangeSpec := { name := "fnExactFitsRing", fn := fun _ => fun
  | [d] => { results := [.lit (.bool false)], args := [d] }
  | _ => none }
def FnExactFitsRingWrongFalsely : Prop := fnExactFitsRingRow.holds Try.pinned (OpenSpec.ofChange fnExactFitsRingWrong)

/-- 'laws.FnExactNewFlood': WHATEVER THE INPUT: true; the input reads as it did. -/
def fnExactNewFloodSpec : ChangeSpec := { name := "fnExactNewFlood", fn := fun _ => fun
  | [d1, d2] => { results := [.lit (.bool true)], args := [d1, d2] }
  | _ => none }
def fnExactNewFloodRow : OpenClaim := { program := "ytkkamigaolejiaw", sum := "9fdd785a77e82eaa45fcc89a529fd975f8d0fd2d602b78ad498d74e431948e2b", func := "loop.example/g00575/laws.FnExactNewFlood", spec := "fnExactNewFlood", apart := false }
def FnExactNewFloodSaid : Prop := fnExactNewFloodRow.holds Try.pinned (OpenSpec.ofChange fnExactNewFloodSpec)

/-- ITS FALSE NEIGHBOUR: 'it returns false'. Refute it at one input. -/
def fnExactNewFloodWrong : ChangeSpec := { name := "fnExactNewFlood", fn := fun _ => fun
  | [d1, d2] => { results := [.lit (.bool false)], args := [d1, d2] }
  | _ => none }
def FnExactNewFloodWrongFalsely : Prop := fnExactNewFloodRow.holds Try.pinned (OpenSpec.ofChange fnExactNewFloodWrong)

/-- 'laws.FnExactGoodFlood': WHATEVER THE INPUT: true; the input reads as it did. -/
def fnExactGoodFloodSpec : ChangeSpec := { name := "fnExactGoodFlood", fn := fun _ => fun
  | [d] => { results := [.lit (.bool true)], args := [d] }
  | _ => none }
def fnExactGoodFloodRow : OpenClaim := { program := "ytkkamigaolejiaw", sum := "9fdd785a77e82eaa45fcc89a529fd975f8d0fd2d602b78ad498d74e431948e2b", func := "loop.example/g00575/laws.FnExactGoodFlood", spec := "fnExactGoodFlood", apart := false }
def FnExactGoodFloodSaid : Prop := fnExactGoodFloodRow.holds Try.pinned (OpenSpec.ofChange fnExactGoodFloodSpec)

/-- ITS FALSE NEIGHBOUR: 'it returns false'. Refute it at one input. -/
def fnExactGoodFloodWrong : ChangeSpec := { name := "fnExactGoodFlood", fn := fun _ => fun
  | [d] => { results := [.lit (.bool false)], args := [d] }
  | _ => none }
def FnExactGoodFloodWrongFalsely : Prop := fnExactGoodFloodRow.holds Try.pinned (OpenSpec.ofChange fnExactGoodFloodWrong)

/- THE SECOND FORM. 'bulk': how many values and letters a reading holds, each counted each time it is reached (what is shared counts as often as it is met; a slice's spare places count too). A statement '..UptoSaid' is the law's where the arguments, and the package variables that the reading takes, are together of bulk at most 1048576: NARROWER than '..Said'. Prove '..Said' where nothing that the law and all that it calls make is longer than what came in: it says more and counts as full. Else prove '..UptoSaid'. A law counts once. -/
mutual
def uptoBulk {H : Type} : DataW H → Nat
  | .lit (.string bytes) => bytes.length + 1
  | .lit _ => 1
  | .nil => 1
  | .ptr d => uptoBulk d + 1
  | .slice elems spare => uptoBulkAll elems + uptoBulkAll spare + 1
  | .agg parts => uptoBulkAll parts + 1
  | .iface _ d => uptoBulk d + 1
  | .map entries => uptoBulkEntries entries + 1
  | .held _ => 1
def uptoBulkAll {H : Type} : List (DataW H) → Nat
  | [] => 0
  | d :: r => uptoBulk d + uptoBulkAll r
def uptoBulkEntries {H : Type} : List (Lit × DataW H) → Nat
  | [] => 0
  | x :: r => uptoBulkEntry x + uptoBulkEntries r
def uptoBulkEntry {H : Type} : Lit × DataW H → Nat
  | (.string bytes, d) => bytes.length + uptoBulk d + 1
  | (_, d) => uptoBulk d + 1
 end
def uptoSmall : (H : Type) → List (DataW H) → Bool := fun _ ds => decide (uptoBulkAll ds ≤ 1048576)
def OpenSpec.upto (s : _root_.Go.ChangeSpec) : _root_.Go.OpenSpec := { _root_.Go.OpenSpec.ofChange s with cond := some uptoSmall }

/-- 'laws.FnExactBetter', WHERE WHAT IT READS IS OF BULK AT MOST 1048576: true; the input reads as it did. -/
def fnExactBetterUptoRow : OpenClaim := { program := "ytkkamigaolejiaw", sum := "9fdd785a77e82eaa45fcc89a529fd975f8d0fd2d602b78ad498d74e431948e2b", func := "loop.example/g00575/laws.FnExactBetter", spec := "fnExactBetter", apart := false, narrowed := true }
def FnExactBetterUptoSaid : Prop := fnExactBetterUptoRow.holds Try.pinned (OpenSpec.upto fnExactBetterSpec)

/-- 'laws.FnExactAgeItem', WHERE WHAT IT READS IS OF BULK AT MOST 1048576: true; the input reads as it did. -/
def fnExactAgeItemUptoRow : OpenClaim := { program := "ytkkamigaolejiaw", sum := "9fdd785a77e82eaa45fcc89a529fd975f8d0fd2d602b78ad498d74e431948e2b", func := "loop.example/g00575/laws.FnExactAgeItem", spec := "fnExactAgeItem", apart := false, narrowed := true }
def FnExactAgeItemUptoSaid : Prop := fnExactAgeItemUptoRow.holds Try.pinned (OpenSpec.upto fnExactAgeItemSpec)

/-- 'laws.FnExactNewestOf', WHERE WHAT IT READS IS OF BULK AT MOST 1048576: true; the input reads as it did. -/
def fnExactNewestOfUptoRow : OpenClaim := { program := "ytkkamigaolejiaw", sum := "9fdd785a77e82eaa45fcc89a529fd975f8d0fd2d602b78ad498d74e431948e2b", func := "loop.example/g00575/laws.FnExactNewestOf", spec := "fnExactNewestOf", apart := false, narrowed := true }
def FnExactNewestOfUptoSaid : Prop := fnExactNewestOfUptoRow.holds Try.pinned (OpenSpec.upto fnExactNewestOfSpec)

/-- 'laws.FnExactFitsRing', WHERE WHAT IT READS IS OF BULK AT MOST 1048576: true; the input reads as it did. -/
def fnExactFitsRingUptoRow : OpenClaim := { program := "ytkkamigaolejiaw", sum := "9fdd785a77e82eaa45fcc89a529fd975f8d0fd2d602b78ad498d74e431948e2b", func := "loop.example/g00575/laws.FnExactFitsRing", spec := "fnExactFitsRing", apart := false, narrowed := true }
def FnExactFitsRingUptoSaid : Prop := fnExactFitsRingUptoRow.holds Try.pinned (OpenSpec.upto fnExactFitsRingSpec)

/-- 'laws.FnExactNewFlood', WHERE WHAT IT READS IS OF BULK AT MOST 1048576: true; the input reads as it did. -/
def fnExactNewFloodUptoRow : OpenClaim := { program := "ytkkamigaolejiaw", sum := "9fdd785a77e82eaa45fcc89a529fd975f8d0fd2d602b78ad498d74e431948e2b", func := "loop.example/g00575/laws.FnExactNewFlood", spec := "fnExactNewFlood", apart := false, narrowed := true }
def FnExactNewFloodUptoSaid : Prop := fnExactNewFloodUptoRow.holds Try.pinned (OpenSpec.upto fnExactNewFloodSpec)

/-- 'laws.FnExactGoodFlood', WHERE WHAT IT READS IS OF BULK AT MOST 1048576: true; the input reads as it did. -/
def fnExactGoodFloodUptoRow : OpenClaim := { program := "ytkkamigaolejiaw", sum := "9fdd785a77e82eaa45fcc89a529fd975f8d0fd2d602b78ad498d74e431948e2b", func := "loop.example/g00575/laws.FnExactGoodFlood", spec := "fnExactGoodFlood", apart := false, narrowed := true }
def FnExactGoodFloodUptoSaid : Prop := fnExactGoodFloodUptoRow.holds Try.pinned (OpenSpec.upto fnExactGoodFloodSpec)

end Rows
end Go.Proofs.Ytkkamigaolejiaw
