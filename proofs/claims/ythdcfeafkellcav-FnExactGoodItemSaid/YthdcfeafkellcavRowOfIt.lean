/-
  One of the items, and a list of them, that came in: what the walks are told of them.
-/
import Derived.Test.YthdcfeafkellcavRowLawIt
import Derived.Test.YthdcfeafkellcavCellsOf
namespace Go.Proofs.Ythdcfeafkellcav
open Go.ChangeShapes Go.WideShapes Go.ChangeAt Go.RowKit
set_option maxRecDepth 100000

theorem cellsOfIt : Try.prog.cellsOf 44 = 4 := by kernel_rfl

theorem It_trod {H : Type} {enc : TypeId × Value → H} {W : World} {fuel : Nat} {cs : List Value} {x : DataW H × List MemPlace} (h : DataW.trod enc Try.prog W 0 (fun _ => true) true fuel 44 cs = some x) :
    ∃ q : ItD, cs = [.int .i64 q.frm, .int .i64 q.seq, .int .i64 q.age, .string q.text] ∧ q.text.size ≤ maxLen := by
  obtain ⟨y0, y1, y2, y3, n, hx, hl, t0, t1, t2, t3⟩ := Go.Joins.trod_struct4 Try.underlying44 h
  rw [cellsOfIt] at hl
  obtain ⟨c0, c1, c2, c3, rfl⟩ : ∃ c0 c1 c2 c3, cs = [c0, c1, c2, c3] := by
    match cs, hl with
    | [c0, c1, c2, c3], _ => exact ⟨c0, c1, c2, c3, rfl⟩
  simp only [ofc3, ofc9, List.drop_zero, List.drop_succ_cons, List.take_succ_cons, List.take_zero] at t0 t1 t2 t3
  obtain ⟨x0, e0, -, -⟩ := DataW.trod_int Try.underlying3 t0
  obtain ⟨x1, e1, -, -⟩ := DataW.trod_int Try.underlying3 t1
  obtain ⟨x2, e2, -, -⟩ := DataW.trod_int Try.underlying3 t2
  obtain ⟨x3, e3, -, ht⟩ := DataW.trod_string Try.underlying9 t3
  simp only [List.cons.injEq, and_true] at e0 e1 e2 e3
  subst e0 e1 e2 e3
  exact ⟨⟨x0, x1, x2, x3⟩, rfl, ht⟩
theorem It_of {H : Type} {enc : TypeId × Value → H} {W : World} {r : Reach} {base : Nat} {v : Value} {d : DataW H} {p : List MemPlace} (hv : Value.okWide Try.prog W r base 44 v) (h : DataW.Trod enc Try.prog W 0 (fun _ => true) true 44 v d p) :
    ∃ q : ItD, v = .agg #[.int .i64 q.frm, .int .i64 q.seq, .int .i64 q.age, .string q.text] ∧ q.text.size ≤ maxLen := by
  obtain ⟨cs, rfl, hsz⟩ := okWide_struct Try.underlying44 hv
  obtain ⟨fuel, hf⟩ := h
  obtain ⟨q, e, ht⟩ := It_trod hf
  refine ⟨q, ?_, ht⟩
  simp only [Value.cells] at e
  obtain ⟨l, rfl⟩ : ∃ l : List Value, cs = l.toArray := ⟨cs.toList, by simp⟩
  simp only at e
  rw [e]

end Go.Proofs.Ythdcfeafkellcav
