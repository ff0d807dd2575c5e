/-
  One of the edges, and a list of them, that came in: what the walks are told of them.
-/
import Derived.Test.YthlbmkefjjckaagRowLawEd
import Derived.Test.YthlbmkefjjckaagCellsOf
namespace Go.Proofs.Ythlbmkefjjckaag
open Go.ChangeShapes Go.WideShapes Go.ChangeAt Go.RowKit
set_option maxRecDepth 100000

theorem cellsOfEd : Try.prog.cellsOf 71 = 3 := by kernel_rfl

theorem Ed_trod {H : Type} {enc : TypeId × Value → H} {W : World} {fuel : Nat} {cs : List Value} {x : DataW H × List MemPlace} (h : DataW.trod enc Try.prog W 0 (fun _ => true) true fuel 71 cs = some x) :
    ∃ q : EdD, cs = [.int .i64 q.A, .int .i64 q.B, .int .i64 q.Cost] := by
  obtain ⟨y0, y1, y2, n, hx, hl, t0, t1, t2⟩ := Go.Deep.trod_struct3 Try.underlying71 h
  rw [cellsOfEd] at hl
  obtain ⟨c0, c1, c2, rfl⟩ : ∃ c0 c1 c2, cs = [c0, c1, c2] := by
    match cs, hl with
    | [c0, c1, c2], _ => exact ⟨c0, c1, c2, rfl⟩
  simp only [ofc3, List.drop_zero, List.drop_succ_cons, List.take_succ_cons, List.take_zero] at t0 t1 t2
  obtain ⟨x0, e0, -, -⟩ := DataW.trod_int Try.underlying3 t0
  obtain ⟨x1, e1, -, -⟩ := DataW.trod_int Try.underlying3 t1
  obtain ⟨x2, e2, -, -⟩ := DataW.trod_int Try.underlying3 t2
  simp only [List.cons.injEq, and_true] at e0 e1 e2
  subst e0 e1 e2
  exact ⟨⟨x0, x1, x2⟩, rfl⟩
theorem Ed_of {H : Type} {enc : TypeId × Value → H} {W : World} {r : Reach} {base : Nat} {v : Value} {d : DataW H} {p : List MemPlace} (hv : Value.okWide Try.prog W r base 71 v) (h : DataW.Trod enc Try.prog W 0 (fun _ => true) true 71 v d p) :
    ∃ q : EdD, v = .agg #[.int .i64 q.A, .int .i64 q.B, .int .i64 q.Cost] := by
  obtain ⟨cs, rfl, hsz⟩ := okWide_struct Try.underlying71 hv
  obtain ⟨fuel, hf⟩ := h
  obtain ⟨q, e⟩ := Ed_trod hf
  refine ⟨q, ?_⟩
  simp only [Value.cells] at e
  obtain ⟨l, rfl⟩ : ∃ l : List Value, cs = l.toArray := ⟨cs.toList, by simp⟩
  simp only at e
  rw [e]

theorem Eds_trod {H : Type} {enc : TypeId × Value → H} {W : World} {fuel : Nat} {cs : List Value} {y : DataW H × List MemPlace} (h : DataW.trod enc Try.prog W 0 (fun _ => true) true fuel 36 cs = some y) :
    ∃ (a : Option Addr) (n c : Nat) (hs : List EdD), cs = [.slice a n c] ∧ ReadsEd W (.slice a n c) hs ∧ hs.length ≤ maxLen := by
  rcases DataW.trod_slice Try.underlying36 h with ⟨hcs, _⟩ | ⟨x, len, cap, elems, rest, n, -, hcs, -, -, hl, hm, hlen, hel, -, -⟩
  · exact ⟨none, 0, 0, [], hcs, ⟨none, 0, rfl, .inl rfl⟩, by simp [maxLen]⟩
  · have each' : ∀ i, ∃ q : EdD, i < len → W.cell? ((x.add (i * 3)).add 0) = some (.int .i64 q.A) ∧ W.cell? ((x.add (i * 3)).add 1) = some (.int .i64 q.B) ∧ W.cell? ((x.add (i * 3)).add 2) = some (.int .i64 q.Cost) := by
      intro i
      by_cases hi : i < len
      · have he := hel i hi
        rw [cellsOfEd] at he
        rw [List.getElem?_eq_getElem (by omega)] at he
        obtain ⟨cc, hc, ht⟩ := Option.bind_eq_some_iff.1 he
        obtain ⟨c0, c1, c2, rfl, k0, k1, k2⟩ := cellsAt3 hc
        obtain ⟨q, e⟩ := Ed_trod ht
        simp only [List.cons.injEq, and_true] at e
        obtain ⟨rfl, rfl, rfl⟩ := e
        exact ⟨q, fun _ => ⟨k0, k1, k2⟩⟩
      · exact ⟨noEd, fun h => absurd h hi⟩
    obtain ⟨f, hfun⟩ := Classical.axiomOfChoice each'
    refine ⟨some x, len, cap, (List.range len).map f, hcs, ⟨some x, cap, by simp, ?_⟩, by simp; omega⟩
    by_cases h0 : len = 0
    · exact .inl (by rw [h0]; rfl)
    · obtain ⟨b, off, spot⟩ := x
      obtain ⟨k0, -⟩ := hfun 0 (by omega)
      have hspot : spot = none := by
        have := World.cell?_spot k0
        simpa [Addr.add] using this
      subst hspot
      refine .inr ⟨b, off, rfl, ?_, fun j hj => ?_⟩
      · have := World.block_lt_of_cell? _ _ k0
        simpa [Addr.add] using this
      · have hj' : j < len := by simpa using hj
        obtain ⟨k0, k1, k2⟩ := hfun j hj'
        rw [add_plain, add_plain] at k0 k1 k2
        simp only [List.getElem_map, List.getElem_range]
        exact ⟨k0, k1, k2⟩
theorem Eds_of {H : Type} {enc : TypeId × Value → H} {W : World} {a : Option Addr} {len cap : Nat} {d : DataW H} {p : List MemPlace} (h : DataW.Trod enc Try.prog W 0 (fun _ => true) true 36 (.slice a len cap) d p) :
    ∃ hs : List EdD, ReadsEd W (.slice a len cap) hs ∧ hs.length ≤ maxLen := by
  obtain ⟨fuel, hf⟩ := h
  obtain ⟨a', n', c', hs, e, hr, hl⟩ := Eds_trod hf
  simp only [Value.cells] at e
  simp at e
  obtain ⟨rfl, rfl, rfl⟩ := e
  exact ⟨hs, hr, hl⟩
end Go.Proofs.Ythlbmkefjjckaag
