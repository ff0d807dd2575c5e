/-
  A list of parts that came in: what the walks are told of it.
-/
import Derived.Test.YtiknpoclolnhhasParts
import Derived.Test.YtiknpoclolnhhasPartOf
namespace Go.Proofs.Ytiknpoclolnhhas
open Go.ChangeShapes Go.WideShapes Go.ChangeAt Go.RowKit
set_option maxRecDepth 100000

theorem cells3_of {W : World} {a : Addr} {c : List Value} (h : W.cells? 0 a 3 = some c) : ∃ c0 c1 c2, c = [c0, c1, c2] ∧ W.cell? (a.add 0) = some c0 ∧ W.cell? (a.add 1) = some c1 ∧ W.cell? (a.add 2) = some c2 := by
  unfold World.cells? at h
  rw [if_pos (Nat.zero_le _)] at h
  simp only [show List.range 3 = [0, 1, 2] from rfl, List.mapM_cons, List.mapM_nil] at h
  cases h0 : W.cell? (a.add 0) with
  | none => simp [h0] at h
  | some c0 =>
    cases h1 : W.cell? (a.add 1) with
    | none => simp [h0, h1] at h
    | some c1 =>
      cases h2 : W.cell? (a.add 2) with
      | none => simp [h0, h1, h2] at h
      | some c2 =>
        simp [h0, h1, h2] at h
        exact ⟨c0, c1, c2, h.symm, rfl, rfl, rfl⟩

theorem parts_of {H : Type} {enc : TypeId × Value → H} {W : World} {a : Option Addr} {len cap : Nat} {d : DataW H} {p : List MemPlace} (h : DataW.Trod enc Try.prog W 0 (fun _ => true) true 22 (.slice a len cap) d p) :
    ∃ ps : List PD, ReadsP W (.slice a len cap) ps ∧ ps.length ≤ maxLen ∧ ∀ j (hj : j < ps.length), ps[j].t.size ≤ maxLen ∧ ps[j].zs.length ≤ maxLen := by
  obtain ⟨fuel, hf⟩ := h
  rcases DataW.trod_slice Try.underlying22 hf with ⟨hcs, _⟩ | ⟨x, l, c, elems, rest, n, -, hcs, -, -, hl, hm, hlen, hel, -, -⟩
  · simp [Value.cells] at hcs
    obtain ⟨rfl, rfl, rfl⟩ := hcs
    exact ⟨[], ⟨none, 0, rfl, .inl rfl⟩, by simp [maxLen], fun j hj => absurd hj (Nat.not_lt_zero _)⟩
  · simp [Value.cells] at hcs
    obtain ⟨rfl, rfl, rfl⟩ := hcs
    have each : ∀ i, i < len → ∃ q : PD, (∃ y, W.cell? ((x.add (i * 3)).add 0) = some (.int .i64 q.k) ∧ W.cell? ((x.add (i * 3)).add 1) = some (.string q.t) ∧ W.cell? ((x.add (i * 3)).add 2) = some y ∧ Reads W y q.zs) ∧ q.t.size ≤ maxLen ∧ q.zs.length ≤ maxLen := by
      intro i hi
      have he := hel i hi
      rw [cellsL] at he
      rw [List.getElem?_eq_getElem (by omega)] at he
      obtain ⟨cc, hc, ht⟩ := Option.bind_eq_some_iff.1 he
      obtain ⟨c0, c1, c2, rfl, k0, k1, k2⟩ := cells3_of hc
      obtain ⟨kd, t, a', n', c', zs, e, hr, htt, hzz⟩ := part_trod ht
      simp only [List.cons.injEq, and_true] at e
      obtain ⟨rfl, rfl, rfl⟩ := e
      exact ⟨⟨kd, t, zs⟩, ⟨_, k0, k1, k2, hr⟩, htt, hzz⟩
    have each' : ∀ i, ∃ q : PD, i < len → (∃ y, W.cell? ((x.add (i * 3)).add 0) = some (.int .i64 q.k) ∧ W.cell? ((x.add (i * 3)).add 1) = some (.string q.t) ∧ W.cell? ((x.add (i * 3)).add 2) = some y ∧ Reads W y q.zs) ∧ q.t.size ≤ maxLen ∧ q.zs.length ≤ maxLen := by
      intro i
      by_cases hi : i < len
      · obtain ⟨q, hq⟩ := each i hi
        exact ⟨q, fun _ => hq⟩
      · exact ⟨⟨0, ⟨#[]⟩, []⟩, fun h => absurd h hi⟩
    obtain ⟨f, hfun⟩ := Classical.axiomOfChoice each'
    refine ⟨(List.range len).map f, ⟨some x, cap, by simp, ?_⟩, by simp; omega, fun j hj => ?_⟩
    · by_cases h0 : len = 0
      · exact .inl (by rw [h0]; rfl)
      · obtain ⟨b, off, spot⟩ := x
        obtain ⟨⟨y, k0, -⟩, -⟩ := hfun 0 (by omega)
        have hspot : spot = none := by
          have := World.cell?_spot k0
          simpa [Addr.add] using this
        subst hspot
        refine .inr ⟨b, off, rfl, ?_, fun j hj => ?_⟩
        · have := World.block_lt_of_cell? _ _ k0
          simpa [Addr.add] using this
        · have hj' : j < len := by simpa using hj
          obtain ⟨⟨y, k0, k1, k2, hr⟩, -⟩ := hfun j hj'
          rw [add_plain, add_plain] at k0 k1 k2
          simp only [List.getElem_map, List.getElem_range]
          exact ⟨y, k0, k1, k2, hr⟩
    · have hj' : j < len := by simpa using hj
      simp only [List.getElem_map, List.getElem_range]
      exact (hfun j hj').2
end Go.Proofs.Ytiknpoclolnhhas
