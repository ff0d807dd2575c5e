/-
  What a call that makes memory leaves of the world: below a block number all is as it was, and no block has gone. And the end of a call with four results.
-/
import Derived.WalkKit
import Derived.Below
import Derived.Deep.Draws
namespace Go.Proofs.Ythlbmkefjjckaad
open Go.RowKit

/-- Below block B the world w is as w0 was, and it has B blocks at least. -/
def Since (B : Nat) (w0 w : World) : Prop := Below B w0 w ∧ B ≤ w.heap.size
theorem Since.start (w : World) : Since w.heap.size w w := ⟨Below.refl _ _, Nat.le_refl _⟩
theorem Since.step {B : Nat} {w0 w w' : World} (h : Since B w0 w) (hb : Below w.heap.size w w') : Since B w0 w' :=
  ⟨h.1.trans (hb.mono h.2), Nat.le_trans h.2 hb.size⟩
theorem Since.drew {B : Nat} {w0 w : World} (h : Since B w0 w) : Since B w0 w.drew := ⟨h.1.drew, h.2⟩
theorem below_drewN {B : Nat} {w0 w : World} (h : Below B w0 w) (n : Nat) : Below B w0 (w.drewN n) := ⟨h.os, h.tape, h.output, h.size, h.block⟩
theorem Since.drewN {B : Nat} {w0 w : World} (h : Since B w0 w) (n : Nat) : Since B w0 (w.drewN n) := ⟨below_drewN h.1 n, h.2⟩
theorem Since.tran {B : Nat} {w0 w w1 : World} (h : Since B w0 w) (k : Since w.heap.size w w1) : Since B w0 w1 := h.step k.1

theorem results_tmp4 {fn : Func} {a b c d : Tmp} (h : fn.results = #[.tmp a, .tmp b, .tmp c, .tmp d]) (tmps : Array Value) (P : Program) (w : World) :
    (results fn tmps).run P w = .ok (.tuple #[tmps.getD a undef, tmps.getD b undef, tmps.getD c undef, tmps.getD d undef]) w := by
  simp [results, h]
end Go.Proofs.Ythlbmkefjjckaad
