/-
  A pair that came in, and a list of steps: what the walks are told of them.
-/
import Derived.Test.YtchddjidjfpehatPairLaw
import Derived.Test.YtchddjidjfpehatIntsOf
import Derived.Deep.Strs
import Derived.Lib.SmallJoins
namespace Go.Proofs.Ytchddjidjfpehat
open Go.ChangeShapes Go.WideShapes Go.ChangeAt Go.RowKit
set_option maxRecDepth 100000

theorem ints_trod {H : Type} {enc : TypeId × Value → H} {W : World} {fuel : Nat} {cs : List Value} {x : DataW H × List MemPlace} (h : DataW.trod enc Try.prog W 0 (fun _ => true) true fuel 22 cs = some x) :
    ∃ (a : Option Addr) (n c : Nat) (zs : List Int), cs = [.slice a n c] ∧ Reads W (.slice a n c) zs ∧ zs.length ≤ maxLen := by
  have h' := h
  rcases open_ints Try.underlying22 Try.underlying3 cells3 h with ⟨rfl, _⟩ | ⟨y, l, c, zs, rfl, _⟩
  · obtain ⟨zs, h1, h2⟩ := ints_of (a := none) (len := 0) (cap := 0) (d := x.1) (p := x.2) ⟨fuel, h'⟩
    exact ⟨_, _, _, zs, rfl, h1, h2⟩
  · obtain ⟨zs, h1, h2⟩ := ints_of (a := some y) (len := l) (cap := c) (d := x.1) (p := x.2) ⟨fuel, h'⟩
    exact ⟨_, _, _, zs, rfl, h1, h2⟩

theorem cells4 : Try.prog.cellsOf 4 = 1 := by kernel_rfl
theorem cellsI : Try.prog.cellsOf 22 = 1 := by kernel_rfl

theorem cellsHel : Try.prog.cellsOf 81 = 2 := by kernel_rfl

theorem cellsHels : Try.prog.cellsOf 31 = 1 := by kernel_rfl

theorem cellsPair : Try.prog.cellsOf 33 = 3 := by kernel_rfl

theorem cells2_of {W : World} {a : Addr} {c : List Value} (h : W.cells? 0 a 2 = some c) : ∃ c0 c1, c = [c0, c1] ∧ W.cell? (a.add 0) = some c0 ∧ W.cell? (a.add 1) = some c1 := by
  unfold World.cells? at h
  rw [if_pos (Nat.zero_le _)] at h
  simp only [show List.range 2 = [0, 1] from rfl, List.mapM_cons, List.mapM_nil] at h
  cases h0 : W.cell? (a.add 0) with
  | none => simp [h0] at h
  | some c0 =>
    cases h1 : W.cell? (a.add 1) with
    | none => simp [h0, h1] at h
    | some c1 =>
      simp [h0, h1] at h
      exact ⟨c0, c1, h.symm, rfl, rfl⟩

theorem hello_trod {H : Type} {enc : TypeId × Value → H} {W : World} {fuel : Nat} {cs : List Value} {x : DataW H × List MemPlace} (h : DataW.trod enc Try.prog W 0 (fun _ => true) true fuel 81 cs = some x) :
    ∃ (k : Int) (b : Bool), cs = [.int .i64 k, .bool b] := by
  obtain ⟨y0, y1, n, hx, hl, h0, h1⟩ := trod_struct2 Try.underlying81 h
  rw [cellsHel] at hl
  obtain ⟨c0, c1, rfl⟩ : ∃ c0 c1, cs = [c0, c1] := by
    match cs, hl with
    | [c0, c1], _ => exact ⟨c0, c1, rfl⟩
  simp only [cells3, cells4, List.drop_zero, List.drop_succ_cons, List.take_succ_cons, List.take_zero] at h0 h1
  obtain ⟨k, e0, -, -⟩ := DataW.trod_int Try.underlying3 h0
  obtain ⟨t, e1, -⟩ := DataW.trod_bool Try.underlying4 h1
  simp only [List.cons.injEq, and_true] at e0 e1
  subst e0 e1
  exact ⟨k, t, rfl⟩

theorem hellos_trod {H : Type} {enc : TypeId × Value → H} {W : World} {fuel : Nat} {cs : List Value} {y : DataW H × List MemPlace} (h : DataW.trod enc Try.prog W 0 (fun _ => true) true fuel 31 cs = some y) :
    ∃ (a : Option Addr) (n c : Nat) (hs : List HD), cs = [.slice a n c] ∧ ReadsH W (.slice a n c) hs ∧ hs.length ≤ maxLen := by
  rcases DataW.trod_slice Try.underlying31 h with ⟨hcs, _⟩ | ⟨x, len, cap, elems, rest, n, -, hcs, -, -, hl, hm, hlen, hel, -, -⟩
  · exact ⟨none, 0, 0, [], hcs, ⟨none, 0, rfl, .inl rfl⟩, by simp [maxLen]⟩
  · have each' : ∀ i, ∃ q : HD, i < len → W.cell? ((x.add (i * 2)).add 0) = some (.int .i64 q.f) ∧ W.cell? ((x.add (i * 2)).add 1) = some (.bool q.h) := by
      intro i
      by_cases hi : i < len
      · have he := hel i hi
        rw [cellsHel] at he
        rw [List.getElem?_eq_getElem (by omega)] at he
        obtain ⟨cc, hc, ht⟩ := Option.bind_eq_some_iff.1 he
        obtain ⟨c0, c1, rfl, k0, k1⟩ := cells2_of hc
        obtain ⟨kd, b, e⟩ := hello_trod ht
        simp only [List.cons.injEq, and_true] at e
        obtain ⟨rfl, rfl⟩ := e
        exact ⟨⟨kd, b⟩, fun _ => ⟨k0, k1⟩⟩
      · exact ⟨noH, fun h => absurd h hi⟩
    obtain ⟨f, hfun⟩ := Classical.axiomOfChoice each'
    refine ⟨some x, len, cap, (List.range len).map f, hcs, ⟨some x, cap, by simp, ?_⟩, by simp; omega⟩
    by_cases h0 : len = 0
    · exact .inl (by rw [h0]; rfl)
    · obtain ⟨b, off, spot⟩ := x
      obtain ⟨k0, -⟩ := hfun 0 (by omega)
      have hspot : spot = none := by
        have := World.cell?_spot k0
        simpa [Addr.add] using this
      subst hspot
      refine .inr ⟨b, off, rfl, ?_, fun j hj => ?_⟩
      · have := World.block_lt_of_cell? _ _ k0
        simpa [Addr.add] using this
      · have hj' : j < len := by simpa using hj
        obtain ⟨k0, k1⟩ := hfun j hj'
        rw [add_plain, add_plain] at k0 k1
        simp only [List.getElem_map, List.getElem_range]
        exact ⟨k0, k1⟩

theorem pair_of {H : Type} {enc : TypeId × Value → H} {W : World} {r : Reach} {base : Nat} {v : Value} {d : DataW H} {p : List MemPlace} (hv : Value.okWide Try.prog W r base 33 v) (h : DataW.Trod enc Try.prog W 0 (fun _ => true) true 33 v d p) :
    ∃ (x y z : Value) (pr : PR), v = .agg #[x, y, z] ∧ Reads3 W x y z pr ∧ pr.st.length ≤ maxLen ∧ pr.lf.length ≤ maxLen ∧ pr.ln.length ≤ maxLen := by
  obtain ⟨cs, rfl, hsz⟩ := okWide_struct Try.underlying33 hv
  obtain ⟨fuel, hf⟩ := h
  obtain ⟨y0, y1, y2, n, hx, hl, h0, h1, h2⟩ := Go.Deep.trod_struct3 Try.underlying33 hf
  simp only [Value.cells] at hl h0 h1 h2
  rw [cellsPair] at hl
  obtain ⟨l, rfl⟩ : ∃ l : List Value, cs = l.toArray := ⟨cs.toList, by simp⟩
  simp only at hl h0 h1 h2
  obtain ⟨c0, c1, c2, rfl⟩ : ∃ c0 c1 c2, l = [c0, c1, c2] := by
    match l, hl with
    | [c0, c1, c2], _ => exact ⟨c0, c1, c2, rfl⟩
  simp only [cellsI, cellsHels, List.drop_zero, List.drop_succ_cons, List.take_succ_cons, List.take_zero] at h0 h1 h2
  obtain ⟨a, m, c, zs, e0, hr0, hz0⟩ := ints_trod h0
  obtain ⟨a', m', c', zs', e1, hr1, hz1⟩ := ints_trod h1
  obtain ⟨a'', m'', c'', hs, e2, hr2, hz2⟩ := hellos_trod h2
  simp only [List.cons.injEq, and_true] at e0 e1 e2
  subst e0 e1 e2
  exact ⟨_, _, _, ⟨zs, zs', hs⟩, rfl, ⟨hr0, hr1, hr2⟩, hz0, hz1, hz2⟩

theorem cellsStep : Try.prog.cellsOf 39 = 2 := by kernel_rfl

theorem step_of {H : Type} {enc : TypeId × Value → H} {W : World} {r : Reach} {base : Nat} {v : Value} {d : DataW H} {p : List MemPlace} (hv : Value.okWide Try.prog W r base 39 v) (h : DataW.Trod enc Try.prog W 0 (fun _ => true) true 39 v d p) :
    ∃ kd k : Int, v = .agg #[.int .i64 kd, .int .i64 k] := by
  obtain ⟨cs, rfl, hsz⟩ := okWide_struct Try.underlying39 hv
  obtain ⟨fuel, hf⟩ := h
  obtain ⟨y0, y1, n, hx, hl, h0, h1⟩ := trod_struct2 Try.underlying39 hf
  simp only [Value.cells] at hl h0 h1
  rw [cellsStep] at hl
  obtain ⟨l, rfl⟩ : ∃ l : List Value, cs = l.toArray := ⟨cs.toList, by simp⟩
  simp only at hl h0 h1
  obtain ⟨c0, c1, rfl⟩ : ∃ c0 c1, l = [c0, c1] := by
    match l, hl with
    | [c0, c1], _ => exact ⟨c0, c1, rfl⟩
  simp only [cells3, List.drop_zero, List.drop_succ_cons, List.take_succ_cons, List.take_zero] at h0 h1
  obtain ⟨kd, e0, -, -⟩ := DataW.trod_int Try.underlying3 h0
  obtain ⟨k, e1, -, -⟩ := DataW.trod_int Try.underlying3 h1
  simp only [List.cons.injEq, and_true] at e0 e1
  subst e0 e1
  exact ⟨kd, k, rfl⟩

end Go.Proofs.Ytchddjidjfpehat
