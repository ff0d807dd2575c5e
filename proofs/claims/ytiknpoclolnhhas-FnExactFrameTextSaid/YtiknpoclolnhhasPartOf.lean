/-
  A part that came in: what the walks are told of it.
-/
import Derived.Test.YtiknpoclolnhhasLawPart
import Derived.Test.YtiknpoclolnhhasIntsOf
import Derived.Deep.Strs
import Derived.Lib.SmallJoins
namespace Go.Proofs.Ytiknpoclolnhhas
open Go.ChangeShapes Go.WideShapes Go.ChangeAt Go.RowKit
set_option maxRecDepth 100000

theorem ints_trod {H : Type} {enc : TypeId × Value → H} {W : World} {fuel : Nat} {cs : List Value} {x : DataW H × List MemPlace} (h : DataW.trod enc Try.prog W 0 (fun _ => true) true fuel 34 cs = some x) :
    ∃ (a : Option Addr) (n c : Nat) (zs : List Int), cs = [.slice a n c] ∧ Reads W (.slice a n c) zs ∧ zs.length ≤ maxLen := by
  have h' := h
  rcases open_ints Try.underlying34 Try.underlying3 cells3 h with ⟨rfl, _⟩ | ⟨y, l, c, zs, rfl, _⟩
  · obtain ⟨zs, h1, h2⟩ := ints_of (a := none) (len := 0) (cap := 0) (d := x.1) (p := x.2) ⟨fuel, h'⟩
    exact ⟨_, _, _, zs, rfl, h1, h2⟩
  · obtain ⟨zs, h1, h2⟩ := ints_of (a := some y) (len := l) (cap := c) (d := x.1) (p := x.2) ⟨fuel, h'⟩
    exact ⟨_, _, _, zs, rfl, h1, h2⟩

theorem cells9 : Try.prog.cellsOf 9 = 1 := by kernel_rfl
theorem cellsI : Try.prog.cellsOf 34 = 1 := by kernel_rfl
theorem cellsL : Try.prog.cellsOf 46 = 3 := by kernel_rfl

theorem part_trod {H : Type} {enc : TypeId × Value → H} {W : World} {fuel : Nat} {cs : List Value} {x : DataW H × List MemPlace} (h : DataW.trod enc Try.prog W 0 (fun _ => true) true fuel 46 cs = some x) :
    ∃ (k : Int) (t : ByteArray) (a : Option Addr) (n c : Nat) (zs : List Int), cs = [.int .i64 k, .string t, .slice a n c] ∧ Reads W (.slice a n c) zs ∧ t.size ≤ maxLen ∧ zs.length ≤ maxLen := by
  obtain ⟨y0, y1, y2, n, hx, hl, h0, h1, h2⟩ := Go.Deep.trod_struct3 Try.underlying46 h
  rw [cellsL] at hl
  obtain ⟨c0, c1, c2, rfl⟩ : ∃ c0 c1 c2, cs = [c0, c1, c2] := by
    match cs, hl with
    | [c0, c1, c2], _ => exact ⟨c0, c1, c2, rfl⟩
  simp only [cells3, cells9, cellsI, List.drop_zero, List.drop_succ_cons, List.take_succ_cons, List.take_zero] at h0 h1 h2
  obtain ⟨k, e0, -, -⟩ := DataW.trod_int Try.underlying3 h0
  obtain ⟨t, e1, -, ht⟩ := DataW.trod_string Try.underlying9 h1
  obtain ⟨a, m, c, zs, e2, hr, hz⟩ := ints_trod h2
  simp only [List.cons.injEq, and_true] at e0 e1 e2
  subst e0 e1 e2
  exact ⟨k, t, a, m, c, zs, rfl, hr, ht, hz⟩

theorem part_of {H : Type} {enc : TypeId × Value → H} {W : World} {r : Reach} {base : Nat} {v : Value} {d : DataW H} {p : List MemPlace} (hv : Value.okWide Try.prog W r base 46 v) (h : DataW.Trod enc Try.prog W 0 (fun _ => true) true 46 v d p) :
    ∃ (k : Int) (t : ByteArray) (a : Option Addr) (n c : Nat) (zs : List Int), v = partV k t (.slice a n c) ∧ Reads W (.slice a n c) zs ∧ t.size ≤ maxLen ∧ zs.length ≤ maxLen := by
  obtain ⟨cs, rfl, hsz⟩ := okWide_struct Try.underlying46 hv
  obtain ⟨fuel, hf⟩ := h
  obtain ⟨k, t, a, n, c, zs, hcs, hr⟩ := part_trod hf
  refine ⟨k, t, a, n, c, zs, ?_, hr⟩
  simp only [Value.cells] at hcs
  unfold partV
  congr 1
  exact Array.ext' hcs
end Go.Proofs.Ytiknpoclolnhhas
