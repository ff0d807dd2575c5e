/-
  No cell of these rows narrows 'for every input' (looked for: loops, veiled, ifaces, maps, wideKeys, modest, calm, conditions, laid).
  DERIVED. THE GIVEN ROWS OF THIS SEAT. 5 by the template 'for every input the law returns true; each argument reads behind the call as it read before'; 0 by the template 'total and deterministic' (their statements: YtiknpoclolnhhasTotals.lean).
  GIVEN WITH THE SEED: the statements are not yours to turn. If you find one false, say at which input.
  Laid BY PROGRAM, IN A SANDBOX (cutbox-rows.mjs): the forced cells as the released guide's own fill.sh prints them over the translation 5e3d1c6f8a8ca1d2… (all of the seat's roots in one cut). By AI agents, Wed Nov 11 2026. No macro, syntax, notation, axiom, sorry.
-/
import Derived.Test.YtiknpoclolnhhasChecked
import GoSem.Claim
import GoSem.ClaimJoined
import GoSem.ClaimMapViews
import Derived.JoinedTies
import Derived.KernelRfl
namespace Go.Proofs.Ytiknpoclolnhhas
/- THE CELL 'sum', in the pinned program and in every row, IS THE sha256 OF THE DUMP (.gsa) THAT YtiknpoclolnhhasProg.lean LOADS. Nothing in Lean hashes anything: it is a label: what it is worth is what the hold of that sum in a sandbox is worth. -/
noncomputable def Try.pinned : Pinned := { name := "ytiknpoclolnhhas", sum := "5e3d1c6f8a8ca1d26c249015920a69d315738ad63b42a4c86dc846e2fdeb5755", checked := Try.checked }
namespace Rows
def none {H : Type} : Left H := { results := [], args := [] }

/-- 'laws.FnExactFrameText': WHATEVER THE INPUT: true; the input reads as it did. -/
def fnExactFrameTextSpec : ChangeSpec := { name := "fnExactFrameText", fn := fun _ => fun
  | [d] => { results := [.lit (.bool true)], args := [d] }
  | _ => none }
def fnExactFrameTextRow : OpenClaim := { program := "ytiknpoclolnhhas", sum := "5e3d1c6f8a8ca1d26c249015920a69d315738ad63b42a4c86dc846e2fdeb5755", func := "loop.example/g00575/laws.FnExactFrameText", spec := "fnExactFrameText", inPlace := ["internal/abi.NoEscape"], unfollowed := true, recurses := true, apart := false }
def FnExactFrameTextSaid : Prop := fnExactFrameTextRow.holds Try.pinned (OpenSpec.ofChange fnExactFrameTextSpec)

/-- ITS FALSE NEIGHBOUR: 'it returns false'. Refute it at one input. -/
def fnExactFrameTextWrong : ChangeSpec := { name := "fnExactFrameText", fn := fun _ => fun
  | [d] => { results := [.lit (.bool false)], args := [d] }
  | _ => none }
def FnExactFrameTextWrongFalsely : Prop := fnExactFrameTextRow.holds Try.pinned (OpenSpec.ofChange fnExactFrameTextWrong)

/-- 'laws.FnExactReadFrame': WHATEVER THE INPUT: true; the input reads as it did. -/
def fnExactReadFrameSpec : ChangeSpec := { name := "fnExactReadFrame", fn := fun _ => fun
  | [d] => { results := [.lit (.bool true)], args := [d] }
  | _ => none }
def fnExactReadFrameRow : OpenClaim := { program := "ytiknpoclolnhhas", sum := "5e3d1c6f8a8ca1d26c249015920a69d315738ad63b42a4c86dc846e2fdeb5755", func := "loop.example/g00575/laws.FnExactReadFrame", spec := "fnExactReadFrame", unfollowed := true, recurses := true, apart := false }
def FnExactReadFrameSaid : Prop := fnExactReadFrameRow.holds Try.pinned (OpenSpec.ofChange fnExactReadFrameSpec)

/-- ITS FALSE NEIGHBOUR: 'it returns false'. Refute it at one input. -/
def fnExactReadFrameWrong : ChangeSpec := { name := "fnExactReadFrame", fn := fun _ => fun
  | [d] => { results := [.lit (.bool false)], args := [d] }
  | _ => none }
def FnExactReadFrameWrongFalsely : Prop := fnExactReadFrameRow.holds Try.pinned (OpenSpec.ofChange fnExactReadFrameWrong)

/-- 'laws.FnExactPutNums': WHATEVER THE INPUT: true; the input reads as it did. -/
def fnExactPutNumsSpec : ChangeSpec := { name := "fnExactPutNums", fn := fun _ => fun
  | [d] => { results := [.lit (.bool true)], args := [d] }
  | _ => none }
def fnExactPutNumsRow : OpenClaim := { program := "ytiknpoclolnhhas", sum := "5e3d1c6f8a8ca1d26c249015920a69d315738ad63b42a4c86dc846e2fdeb5755", func := "loop.example/g00575/laws.FnExactPutNums", spec := "fnExactPutNums", apart := false }
def FnExactPutNumsSaid : Prop := fnExactPutNumsRow.holds Try.pinned (OpenSpec.ofChange fnExactPutNumsSpec)

/-- ITS FALSE NEIGHBOUR: 'it returns false'. Refute it at one input. -/
def fnExactPutNumsWrong : ChangeSpec := { name := "fnExactPutNums", fn := fun _ => fun
  | [d] => { results := [.lit (.bool false)], args := [d] }
  | _ => none }
def FnExactPutNumsWrongFalsely : Prop := fnExactPutNumsRow.holds Try.pinned (OpenSpec.ofChange fnExactPutNumsWrong)

/-- 'laws.FnExactTakeNums': WHATEVER THE INPUT: true; the input reads as it did. -/
def fnExactTakeNumsSpec : ChangeSpec := { name := "fnExactTakeNums", fn := fun _ => fun
  | [d] => { results := [.lit (.bool true)], args := [d] }
  | _ => none }
def fnExactTakeNumsRow : OpenClaim := { program := "ytiknpoclolnhhas", sum := "5e3d1c6f8a8ca1d26c249015920a69d315738ad63b42a4c86dc846e2fdeb5755", func := "loop.example/g00575/laws.FnExactTakeNums", spec := "fnExactTakeNums", apart := false }
def FnExactTakeNumsSaid : Prop := fnExactTakeNumsRow.holds Try.pinned (OpenSpec.ofChange fnExactTakeNumsSpec)

/-- ITS FALSE NEIGHBOUR: 'it returns false'. Refute it at one input. -/
def fnExactTakeNumsWrong : ChangeSpec := { name := "fnExactTakeNums", fn := fun _ => fun
  | [d] => { results := [.lit (.bool false)], args := [d] }
  | _ => none }
def FnExactTakeNumsWrongFalsely : Prop := fnExactTakeNumsRow.holds Try.pinned (OpenSpec.ofChange fnExactTakeNumsWrong)

/-- 'laws.FnExactSkipPart': WHATEVER THE INPUT: true; the input reads as it did. -/
def fnExactSkipPartSpec : ChangeSpec := { name := "fnExactSkipPart", fn := fun _ => fun
  | [d] => { results := [.lit (.bool true)], args := [d] }
  | _ => none }
def fnExactSkipPartRow : OpenClaim := { program := "ytiknpoclolnhhas", sum := "5e3d1c6f8a8ca1d26c249015920a69d315738ad63b42a4c86dc846e2fdeb5755", func := "loop.example/g00575/laws.FnExactSkipPart", spec := "fnExactSkipPart", apart := false }
def FnExactSkipPartSaid : Prop := fnExactSkipPartRow.holds Try.pinned (OpenSpec.ofChange fnExactSkipPartSpec)

/-- ITS FALSE NEIGHBOUR: 'it returns false'. Refute it at one input. -/
def fnExactSkipPartWrong : ChangeSpec := { name := "fnExactSkipPart", fn := fun _ => fun
  | [d] => { results := [.lit (.bool false)], args := [d] }
  | _ => none }
def FnExactSkipPartWrongFalsely : Prop := fnExactSkipPartRow.holds Try.pinned (OpenSpec.ofChange fnExactSkipPartWrong)

/- THE SECOND FORM. 'bulk': how many values and letters a reading holds, each counted each time it is reached (what is shared counts as often as it is met; a slice's spare places count too). A statement '..UptoSaid' is the law's where the arguments, and the package variables that the reading takes, are together of bulk at most 1048576: NARROWER than '..Said'. Prove '..Said' where nothing that the law and all that it calls make is longer than what came in: it says more and counts as full. Else prove '..UptoSaid'. A law counts once. -/
mutual
def uptoBulk {H : Type} : DataW H → Nat
  | .lit (.string bytes) => bytes.length + 1
  | .lit _ => 1
  | .nil => 1
  | .ptr d => uptoBulk d + 1
  | .slice elems spare => uptoBulkAll elems + uptoBulkAll spare + 1
  | .agg parts => uptoBulkAll parts + 1
  | .iface _ d => uptoBulk d + 1
  | .map entries => uptoBulkEntries entries + 1
  | .held _ => 1
def uptoBulkAll {H : Type} : List (DataW H) → Nat
  | [] => 0
  | d :: r => uptoBulk d + uptoBulkAll r
def uptoBulkEntries {H : Type} : List (Lit × DataW H) → Nat
  | [] => 0
  | x :: r => uptoBulkEntry x + uptoBulkEntries r
def uptoBulkEntry {H : Type} : Lit × DataW H → Nat
  | (.string bytes, d) => bytes.length + uptoBulk d + 1
  | (_, d) => uptoBulk d + 1
 end
def uptoSmall : (H : Type) → List (DataW H) → Bool := fun _ ds => decide (uptoBulkAll ds ≤ 1048576)
def OpenSpec.upto (s : _root_.Go.ChangeSpec) : _root_.Go.OpenSpec := { _root_.Go.OpenSpec.ofChange s with cond := some uptoSmall }

/-- 'laws.FnExactFrameText', WHERE WHAT IT READS IS OF BULK AT MOST 1048576: true; the input reads as it did. -/
def fnExactFrameTextUptoRow : OpenClaim := { program := "ytiknpoclolnhhas", sum := "5e3d1c6f8a8ca1d26c249015920a69d315738ad63b42a4c86dc846e2fdeb5755", func := "loop.example/g00575/laws.FnExactFrameText", spec := "fnExactFrameText", inPlace := ["internal/abi.NoEscape"], unfollowed := true, recurses := true, apart := false, narrowed := true }
def FnExactFrameTextUptoSaid : Prop := fnExactFrameTextUptoRow.holds Try.pinned (OpenSpec.upto fnExactFrameTextSpec)

/-- 'laws.FnExactReadFrame', WHERE WHAT IT READS IS OF BULK AT MOST 1048576: true; the input reads as it did. -/
def fnExactReadFrameUptoRow : OpenClaim := { program := "ytiknpoclolnhhas", sum := "5e3d1c6f8a8ca1d26c249015920a69d315738ad63b42a4c86dc846e2fdeb5755", func := "loop.example/g00575/laws.FnExactReadFrame", spec := "fnExactReadFrame", unfollowed := true, recurses := true, apart := false, narrowed := true }
def FnExactReadFrameUptoSaid : Prop := fnExactReadFrameUptoRow.holds Try.pinned (OpenSpec.upto fnExactReadFrameSpec)

/-- 'laws.FnExactPutNums', WHERE WHAT IT READS IS OF BULK AT MOST 1048576: true; the input reads as it did. -/
def fnExactPutNumsUptoRow : OpenClaim := { program := "ytiknpoclolnhhas", sum := "5e3d1c6f8a8ca1d26c249015920a69d315738ad63b42a4c86dc846e2fdeb5755", func := "loop.example/g00575/laws.FnExactPutNums", spec := "fnExactPutNums", apart := false, narrowed := true }
def FnExactPutNumsUptoSaid : Prop := fnExactPutNumsUptoRow.holds Try.pinned (OpenSpec.upto fnExactPutNumsSpec)

/-- 'laws.FnExactTakeNums', WHERE WHAT IT READS IS OF BULK AT MOST 1048576: true; the input reads as it did. -/
def fnExactTakeNumsUptoRow : OpenClaim := { program := "ytiknpoclolnhhas", sum := "5e3d1c6f8a8ca1d26c249015920a69d315738ad63b42a4c86dc846e2fdeb5755", func := "loop.example/g00575/laws.FnExactTakeNums", spec := "fnExactTakeNums", apart := false, narrowed := true }
def FnExactTakeNumsUptoSaid : Prop := fnExactTakeNumsUptoRow.holds Try.pinned (OpenSpec.upto fnExactTakeNumsSpec)

/-- 'laws.FnExactSkipPart', WHERE WHAT IT READS IS OF BULK AT MOST 1048576: true; the input reads as it did. -/
def fnExactSkipPartUptoRow : OpenClaim := { program := "ytiknpoclolnhhas", sum := "5e3d1c6f8a8ca1d26c249015920a69d315738ad63b42a4c86dc846e2fdeb5755", func := "loop.example/g00575/laws.FnExactSkipPart", spec := "fnExactSkipPart", apart := false, narrowed := true }
def FnExactSkipPartUptoSaid : Prop := fnExactSkipPartUptoRow.holds Try.pinned (OpenSpec.upto fnExactSkipPartSpec)

end Rows
end Go.Proofs.Ytiknpoclolnhhas
