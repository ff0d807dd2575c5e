/-
  One of the items, and a list of them, that came in: what the walks are told of them.
-/
import Derived.Test.YthdcfeafkellcawRowLawIt
import Derived.Test.YthdcfeafkellcawCellsOf
namespace Go.Proofs.Ythdcfeafkellcaw
open Go.ChangeShapes Go.WideShapes Go.ChangeAt Go.RowKit
set_option maxRecDepth 100000

theorem cellsOfIt : Try.prog.cellsOf 23 = 4 := by kernel_rfl

theorem It_trod {H : Type} {enc : TypeId × Value → H} {W : World} {fuel : Nat} {cs : List Value} {x : DataW H × List MemPlace} (h : DataW.trod enc Try.prog W 0 (fun _ => true) true fuel 23 cs = some x) :
    ∃ q : ItD, cs = [.int .i64 q.frm, .int .i64 q.seq, .int .i64 q.age, .string q.text] ∧ q.text.size ≤ maxLen := by
  obtain ⟨y0, y1, y2, y3, n, hx, hl, t0, t1, t2, t3⟩ := Go.Joins.trod_struct4 Try.underlying23 h
  rw [cellsOfIt] at hl
  obtain ⟨c0, c1, c2, c3, rfl⟩ : ∃ c0 c1 c2 c3, cs = [c0, c1, c2, c3] := by
    match cs, hl with
    | [c0, c1, c2, c3], _ => exact ⟨c0, c1, c2, c3, rfl⟩
  simp only [ofc3, ofc9, List.drop_zero, List.drop_succ_cons, List.take_succ_cons, List.take_zero] at t0 t1 t2 t3
  obtain ⟨x0, e0, -, -⟩ := DataW.trod_int Try.underlying3 t0
  obtain ⟨x1, e1, -, -⟩ := DataW.trod_int Try.underlying3 t1
  obtain ⟨x2, e2, -, -⟩ := DataW.trod_int Try.underlying3 t2
  obtain ⟨x3, e3, -, ht⟩ := DataW.trod_string Try.underlying9 t3
  simp only [List.cons.injEq, and_true] at e0 e1 e2 e3
  subst e0 e1 e2 e3
  exact ⟨⟨x0, x1, x2, x3⟩, rfl, ht⟩
theorem It_of {H : Type} {enc : TypeId × Value → H} {W : World} {r : Reach} {base : Nat} {v : Value} {d : DataW H} {p : List MemPlace} (hv : Value.okWide Try.prog W r base 23 v) (h : DataW.Trod enc Try.prog W 0 (fun _ => true) true 23 v d p) :
    ∃ q : ItD, v = .agg #[.int .i64 q.frm, .int .i64 q.seq, .int .i64 q.age, .string q.text] ∧ q.text.size ≤ maxLen := by
  obtain ⟨cs, rfl, hsz⟩ := okWide_struct Try.underlying23 hv
  obtain ⟨fuel, hf⟩ := h
  obtain ⟨q, e, ht⟩ := It_trod hf
  refine ⟨q, ?_, ht⟩
  simp only [Value.cells] at e
  obtain ⟨l, rfl⟩ : ∃ l : List Value, cs = l.toArray := ⟨cs.toList, by simp⟩
  simp only at e
  rw [e]

theorem Its_trod {H : Type} {enc : TypeId × Value → H} {W : World} {fuel : Nat} {cs : List Value} {y : DataW H × List MemPlace} (h : DataW.trod enc Try.prog W 0 (fun _ => true) true fuel 34 cs = some y) :
    ∃ (a : Option Addr) (n c : Nat) (hs : List ItD), cs = [.slice a n c] ∧ ReadsIt W (.slice a n c) hs ∧ hs.length ≤ maxLen ∧ (∀ x ∈ hs, x.text.size ≤ maxLen) := by
  rcases DataW.trod_slice Try.underlying34 h with ⟨hcs, _⟩ | ⟨x, len, cap, elems, rest, n, -, hcs, -, -, hl, hm, hlen, hel, -, -⟩
  · exact ⟨none, 0, 0, [], hcs, ⟨none, 0, rfl, .inl rfl⟩, by simp [maxLen], by simp⟩
  · have each' : ∀ i, ∃ q : ItD, i < len → W.cell? ((x.add (i * 4)).add 0) = some (.int .i64 q.frm) ∧ W.cell? ((x.add (i * 4)).add 1) = some (.int .i64 q.seq) ∧ W.cell? ((x.add (i * 4)).add 2) = some (.int .i64 q.age) ∧ W.cell? ((x.add (i * 4)).add 3) = some (.string q.text) ∧ q.text.size ≤ maxLen := by
      intro i
      by_cases hi : i < len
      · have he := hel i hi
        rw [cellsOfIt] at he
        rw [List.getElem?_eq_getElem (by omega)] at he
        obtain ⟨cc, hc, ht⟩ := Option.bind_eq_some_iff.1 he
        obtain ⟨c0, c1, c2, c3, rfl, k0, k1, k2, k3⟩ := cellsAt4 hc
        obtain ⟨q, e, hq⟩ := It_trod ht
        simp only [List.cons.injEq, and_true] at e
        obtain ⟨rfl, rfl, rfl, rfl⟩ := e
        exact ⟨q, fun _ => ⟨k0, k1, k2, k3, hq⟩⟩
      · exact ⟨noIt, fun h => absurd h hi⟩
    obtain ⟨f, hfun⟩ := Classical.axiomOfChoice each'
    refine ⟨some x, len, cap, (List.range len).map f, hcs, ⟨some x, cap, by simp, ?_⟩, by simp; omega, ?_⟩
    case refine_2 =>
      intro y hy
      obtain ⟨j, hj, rfl⟩ := List.mem_map.1 hy
      exact (hfun j (by simpa using hj)).2.2.2.2
    by_cases h0 : len = 0
    · exact .inl (by rw [h0]; rfl)
    · obtain ⟨b, off, spot⟩ := x
      obtain ⟨k0, -⟩ := hfun 0 (by omega)
      have hspot : spot = none := by
        have := World.cell?_spot k0
        simpa [Addr.add] using this
      subst hspot
      refine .inr ⟨b, off, rfl, ?_, fun j hj => ?_⟩
      · have := World.block_lt_of_cell? _ _ k0
        simpa [Addr.add] using this
      · have hj' : j < len := by simpa using hj
        obtain ⟨k0, k1, k2, k3, -⟩ := hfun j hj'
        rw [add_plain, add_plain] at k0 k1 k2 k3
        simp only [List.getElem_map, List.getElem_range]
        exact ⟨k0, k1, k2, k3⟩
theorem Its_of {H : Type} {enc : TypeId × Value → H} {W : World} {a : Option Addr} {len cap : Nat} {d : DataW H} {p : List MemPlace} (h : DataW.Trod enc Try.prog W 0 (fun _ => true) true 34 (.slice a len cap) d p) :
    ∃ hs : List ItD, ReadsIt W (.slice a len cap) hs ∧ hs.length ≤ maxLen ∧ (∀ x ∈ hs, x.text.size ≤ maxLen) := by
  obtain ⟨fuel, hf⟩ := h
  obtain ⟨a', n', c', hs, e, hr, hl, ht⟩ := Its_trod hf
  simp only [Value.cells] at e
  simp at e
  obtain ⟨rfl, rfl, rfl⟩ := e
  exact ⟨hs, hr, hl, ht⟩
end Go.Proofs.Ythdcfeafkellcaw
