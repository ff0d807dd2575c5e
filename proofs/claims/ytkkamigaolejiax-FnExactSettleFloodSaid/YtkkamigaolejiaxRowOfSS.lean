/-
  A list of lists of numbers that came in: what the walks are told of it.
-/
import Derived.Test.YtkkamigaolejiaxRowSS
import Derived.Test.YtkkamigaolejiaxCellsOf
namespace Go.Proofs.Ytkkamigaolejiax
open Go.ChangeShapes Go.WideShapes Go.ChangeAt Go.RowKit
set_option maxRecDepth 100000

theorem ofcI : Try.prog.cellsOf 60 = 1 := by kernel_rfl
theorem ints_trodS {H : Type} {enc : TypeId × Value → H} {W : World} {fuel : Nat} {cs : List Value} {x : DataW H × List MemPlace} (h : DataW.trod enc Try.prog W 0 (fun _ => true) true fuel 60 cs = some x) :
    ∃ (a : Option Addr) (n c : Nat) (zs : List Int), cs = [.slice a n c] ∧ Reads W (.slice a n c) zs ∧ zs.length ≤ maxLen := by
  have h' := h
  rcases open_ints Try.underlying60 Try.underlying3 cells3 h with ⟨rfl, _⟩ | ⟨y, l, c, zs, rfl, _⟩
  · obtain ⟨zs, h1, h2⟩ := ints_of (a := none) (len := 0) (cap := 0) (d := x.1) (p := x.2) ⟨fuel, h'⟩
    exact ⟨_, _, _, zs, rfl, h1, h2⟩
  · obtain ⟨zs, h1, h2⟩ := ints_of (a := some y) (len := l) (cap := c) (d := x.1) (p := x.2) ⟨fuel, h'⟩
    exact ⟨_, _, _, zs, rfl, h1, h2⟩
theorem cellsAt1 {W : World} {a : Addr} {c : List Value} (h : W.cells? 0 a 1 = some c) : ∃ c0, c = [c0] ∧ W.cell? (a.add 0) = some c0 := by
  unfold World.cells? at h
  rw [if_pos (Nat.zero_le _)] at h
  simp only [show List.range 1 = [0] from rfl, List.mapM_cons, List.mapM_nil] at h
  cases h0 : W.cell? (a.add 0) with
  | none => simp [h0] at h
  | some c0 =>
    simp [h0] at h
    exact ⟨c0, h.symm, rfl⟩

theorem SS_trod {H : Type} {enc : TypeId × Value → H} {W : World} {fuel : Nat} {cs : List Value} {y : DataW H × List MemPlace} (h : DataW.trod enc Try.prog W 0 (fun _ => true) true fuel 22 cs = some y) :
    ∃ (a : Option Addr) (n c : Nat) (zss : List (List Int)), cs = [.slice a n c] ∧ ReadsSS W (.slice a n c) zss ∧ zss.length ≤ maxLen ∧ ∀ j (hj : j < zss.length), zss[j].length ≤ maxLen := by
  rcases DataW.trod_slice Try.underlying22 h with ⟨hcs, _⟩ | ⟨x, len, cap, elems, rest, n, -, hcs, -, -, hl, hm, hlen, hel, -, -⟩
  · exact ⟨none, 0, 0, [], hcs, ⟨none, 0, rfl, .inl rfl⟩, by simp [maxLen], fun j hj => absurd hj (Nat.not_lt_zero _)⟩
  · have each' : ∀ i, ∃ q : List Int, i < len → q.length ≤ maxLen ∧ ∃ u, W.cell? ((x.add (i * 1)).add 0) = some u ∧ Reads W u q := by
      intro i
      by_cases hi : i < len
      · have he := hel i hi
        rw [ofcI] at he
        rw [List.getElem?_eq_getElem (by omega)] at he
        obtain ⟨cc, hc, ht⟩ := Option.bind_eq_some_iff.1 he
        obtain ⟨c0, rfl, k0⟩ := cellsAt1 hc
        obtain ⟨a', n', c', zs, e, hr, hz⟩ := ints_trodS ht
        simp only [List.cons.injEq, and_true] at e
        subst e
        exact ⟨zs, fun _ => ⟨hz, _, k0, hr⟩⟩
      · exact ⟨[], fun h => absurd h hi⟩
    obtain ⟨f, hfun⟩ := Classical.axiomOfChoice each'
    refine ⟨some x, len, cap, (List.range len).map f, hcs, ⟨some x, cap, by simp, ?_⟩, by simp; omega, fun j hj => ?_⟩
    · by_cases h0 : len = 0
      · exact .inl (by rw [h0]; rfl)
      · obtain ⟨b, off, spot⟩ := x
        obtain ⟨-, u0, k0, -⟩ := hfun 0 (by omega)
        have hspot : spot = none := by
          have := World.cell?_spot k0
          simpa [Addr.add] using this
        subst hspot
        refine .inr ⟨b, off, rfl, ?_, fun j hj => ?_⟩
        · have := World.block_lt_of_cell? _ _ k0
          simpa [Addr.add] using this
        · have hj' : j < len := by simpa using hj
          obtain ⟨-, u, k1, hr⟩ := hfun j hj'
          rw [add_plain, add_plain] at k1
          simp only [List.getElem_map, List.getElem_range]
          exact ⟨u, by simpa using k1, hr⟩
    · have hj' : j < len := by simpa using hj
      simp only [List.getElem_map, List.getElem_range]
      exact (hfun j hj').1
theorem SS_of {H : Type} {enc : TypeId × Value → H} {W : World} {a : Option Addr} {len cap : Nat} {d : DataW H} {p : List MemPlace} (h : DataW.Trod enc Try.prog W 0 (fun _ => true) true 22 (.slice a len cap) d p) :
    ∃ zss : List (List Int), ReadsSS W (.slice a len cap) zss ∧ zss.length ≤ maxLen ∧ ∀ j (hj : j < zss.length), zss[j].length ≤ maxLen := by
  obtain ⟨fuel, hf⟩ := h
  obtain ⟨a', n', c', zss, e, hr, hl, hj⟩ := SS_trod hf
  simp only [Value.cells] at e
  simp at e
  obtain ⟨rfl, rfl, rfl⟩ := e
  exact ⟨zss, hr, hl, hj⟩
end Go.Proofs.Ytkkamigaolejiax
