/-
  The frame round a law's walk over the table 'impl.moduli': what the row's list gives, and that the table reads again behind a call that wrote nothing of what was there.
-/
import Derived.Test.YtfeiefgmeleeiaaDoorCards
import Derived.Test.YtfeiefgmeleeiaaDoorTie
import Derived.Test.YtfeiefgmeleeiaaDoorSumOf
import Derived.ProofKit
import Derived.OpenShut
import Derived.ShutString
import Derived.ChangeOld
import Derived.WalkSmall
import Derived.Carry
import Derived.Deep.DeepHandedRow
import Derived.Lib.LaidTab
namespace Go.Proofs.YtfeiefgmeleeiaaDoor
open Go.ChangeShapes Go.WideShapes Go.ChangeAt Go.RowKit

theorem own : ownKnob Tryd.prog.godebug = none := by kernel_rfl
theorem laidOut : laidOutB Tryd.prog = true := by kernel_rfl
theorem gTab : Tryd.prog.globalNamed "loop.example/g00575/impl.moduli" = some 0 := by kernel_rfl
theorem gTabType : (Tryd.prog.globals[0]?).map (·.type) = some 56 := by kernel_rfl
theorem cellsTT : Tryd.prog.cellsOf 56 = 8 := by kernel_rfl
theorem cells3 : Tryd.prog.cellsOf 3 = 1 := by kernel_rfl

/-- What the row's list gives: the table's cells hold its numbers. -/
theorem table {W : World} (h : laidMetH Tryd.prog [("loop.example/g00575/impl.moduli", Rows.laid_loop_example_g00575_impl_moduli)] W) : Tab W := by
  have hT : Lib.TabIs Tryd.prog W "loop.example/g00575/impl.moduli" .i64 [32640, 16320, 8160, 4080, 2040, 1020, 510, 255] :=
    Lib.tabIs_of_head (rest := []) gTab gTabType Tryd.underlying56 Tryd.underlying3 cells3 cellsTT h
  intro k hk
  exact hT.cell gTab k hk

/-- The table reads behind the call as it read before. -/
theorem vars_again {H : Type} {enc : TypeId × Value → H} {W W' : World} {gs : List (DataW H)} {q : List MemPlace}
    (hV : DataW.TrodVars enc Tryd.prog W (fun _ => true) ["loop.example/g00575/impl.moduli"] gs q) (hb : Below W.heap.size W W') (hlt : ∀ x ∈ q, x.block < W.heap.size) (hz : 0 < W.heap.size) :
    ∃ d, gs = [d] ∧ DataW.TrodVars enc Tryd.prog W' (fun b => decide (b < W.heap.size)) ["loop.example/g00575/impl.moduli"] [d] q := by
  obtain ⟨g, t, cs, fuel, d, p', rfl, hg, ht, hvar, hd, rfl⟩ := trodVars_one hV
  obtain rfl := Option.some.inj (gTab.symm.trans hg)
  obtain rfl := Option.some.inj (gTabType.symm.trans ht)
  obtain ⟨fuel', hd'⟩ := Below.trod laidOut (by kernel_rfl) (of_decide_eq_true (by kernel_rfl)) (v := .agg cs) (⟨fuel, by simpa [Value.cells] using hd⟩ : DataW.Trod enc Tryd.prog W 0 (fun _ => true) true 56 (.agg cs) d p') hb (fun x hx => hlt x (List.mem_append_right _ hx))
  exact ⟨d, rfl, trodVars_mk1 hg ht (var?_below hb hg hz hvar) (by simpa [Value.cells] using hd')⟩

end Go.Proofs.YtfeiefgmeleeiaaDoor
