/-
  One letter, a list of letters and a flood that came in: what the walks are told of them.
-/
import Derived.Test.YtkkamigaolejiaxFlSz
import Derived.Test.YtkkamigaolejiaxRowOfSS
import Derived.Lib.SmallJoins
namespace Go.Proofs.Ytkkamigaolejiax
open Go.ChangeShapes Go.WideShapes Go.ChangeAt Go.RowKit
set_option maxRecDepth 100000

theorem ofcLt : Try.prog.cellsOf 84 = 5 := by kernel_rfl
theorem ofcEn : Try.prog.cellsOf 82 = 2 := by kernel_rfl
theorem cellsAt5 {W : World} {a : Addr} {c : List Value} (h : W.cells? 0 a 5 = some c) : ∃ c0 c1 c2 c3 c4, c = [c0, c1, c2, c3, c4] ∧ W.cell? (a.add 0) = some c0 ∧ W.cell? (a.add 1) = some c1 ∧ W.cell? (a.add 2) = some c2 ∧ W.cell? (a.add 3) = some c3 ∧ W.cell? (a.add 4) = some c4 := by
  unfold World.cells? at h
  rw [if_pos (Nat.zero_le _)] at h
  simp only [show List.range 5 = [0, 1, 2, 3, 4] from rfl, List.mapM_cons, List.mapM_nil] at h
  cases h0 : W.cell? (a.add 0) with
  | none => simp [h0] at h
  | some c0 =>
    cases h1 : W.cell? (a.add 1) with
    | none => simp [h0, h1] at h
    | some c1 =>
      cases h2 : W.cell? (a.add 2) with
      | none => simp [h0, h1, h2] at h
      | some c2 =>
        cases h3 : W.cell? (a.add 3) with
        | none => simp [h0, h1, h2, h3] at h
        | some c3 =>
          cases h4 : W.cell? (a.add 4) with
          | none => simp [h0, h1, h2, h3, h4] at h
          | some c4 =>
            simp [h0, h1, h2, h3, h4] at h
            exact ⟨c0, c1, c2, c3, c4, h.symm, rfl, rfl, rfl, rfl, rfl⟩

theorem En_trod {H : Type} {enc : TypeId × Value → H} {W : World} {fuel : Nat} {cs : List Value} {x : DataW H × List MemPlace} (h : DataW.trod enc Try.prog W 0 (fun _ => true) true fuel 82 cs = some x) :
    ∃ p q : Int, cs = [.int .i64 p, .int .i64 q] := by
  obtain ⟨y0, y1, n, hx, hl, t0, t1⟩ := trod_struct2 Try.underlying82 h
  rw [ofcEn] at hl
  obtain ⟨c0, c1, rfl⟩ : ∃ c0 c1, cs = [c0, c1] := by
    match cs, hl with
    | [c0, c1], _ => exact ⟨c0, c1, rfl⟩
  simp only [ofc3, List.drop_zero, List.drop_succ_cons, List.take_succ_cons, List.take_zero] at t0 t1
  obtain ⟨x0, e0, -, -⟩ := DataW.trod_int Try.underlying3 t0
  obtain ⟨x1, e1, -, -⟩ := DataW.trod_int Try.underlying3 t1
  simp only [List.cons.injEq, and_true] at e0 e1
  subst e0 e1
  exact ⟨x0, x1, rfl⟩
theorem Lt_trod {H : Type} {enc : TypeId × Value → H} {W : World} {fuel : Nat} {cs : List Value} {x : DataW H × List MemPlace} (h : DataW.trod enc Try.prog W 0 (fun _ => true) true fuel 84 cs = some x) :
    ∃ q : LtD, cs = [.int .i64 q.tt, .int .i64 q.bb, .int .i64 q.fr, .int .i64 q.sq, .bool q.ak] := by
  obtain ⟨y0, y1, y2, y3, n, hx, hl, t0, t1, t2, t3⟩ := Go.Joins.trod_struct4 Try.underlying84 h
  rw [ofcLt] at hl
  obtain ⟨c0, c1, c2, c3, c4, rfl⟩ : ∃ c0 c1 c2 c3 c4, cs = [c0, c1, c2, c3, c4] := by
    match cs, hl with
    | [c0, c1, c2, c3, c4], _ => exact ⟨c0, c1, c2, c3, c4, rfl⟩
  simp only [ofc3, ofc4, ofcEn, List.drop_zero, List.drop_succ_cons, List.take_succ_cons, List.take_zero] at t0 t1 t2 t3
  obtain ⟨x0, e0, -, -⟩ := DataW.trod_int Try.underlying3 t0
  obtain ⟨x1, e1, -, -⟩ := DataW.trod_int Try.underlying3 t1
  obtain ⟨x2, x3, e2⟩ := En_trod t2
  obtain ⟨x4, e4, -⟩ := DataW.trod_bool Try.underlying4 t3
  simp only [List.cons.injEq, and_true] at e0 e1 e2 e4
  obtain ⟨rfl, rfl⟩ := e2
  subst e0 e1 e4
  exact ⟨⟨x0, x1, x2, x3, x4⟩, rfl⟩

theorem Lts_trod {H : Type} {enc : TypeId × Value → H} {W : World} {fuel : Nat} {cs : List Value} {y : DataW H × List MemPlace} (h : DataW.trod enc Try.prog W 0 (fun _ => true) true fuel 23 cs = some y) :
    ∃ (a : Option Addr) (n c : Nat) (hs : List LtD), cs = [.slice a n c] ∧ ReadsLt W (.slice a n c) hs ∧ hs.length ≤ maxLen := by
  rcases DataW.trod_slice Try.underlying23 h with ⟨hcs, _⟩ | ⟨x, len, cap, elems, rest, n, -, hcs, -, -, hl, hm, hlen, hel, -, -⟩
  · exact ⟨none, 0, 0, [], hcs, ⟨none, 0, rfl, .inl rfl⟩, by simp [maxLen]⟩
  · have each' : ∀ i, ∃ q : LtD, i < len → W.cell? ((x.add (i * 5)).add 0) = some (.int .i64 q.tt) ∧ W.cell? ((x.add (i * 5)).add 1) = some (.int .i64 q.bb) ∧ W.cell? ((x.add (i * 5)).add 2) = some (.int .i64 q.fr) ∧ W.cell? ((x.add (i * 5)).add 3) = some (.int .i64 q.sq) ∧ W.cell? ((x.add (i * 5)).add 4) = some (.bool q.ak) := by
      intro i
      by_cases hi : i < len
      · have he := hel i hi
        rw [ofcLt] at he
        rw [List.getElem?_eq_getElem (by omega)] at he
        obtain ⟨cc, hc, ht⟩ := Option.bind_eq_some_iff.1 he
        obtain ⟨c0, c1, c2, c3, c4, rfl, k0, k1, k2, k3, k4⟩ := cellsAt5 hc
        obtain ⟨q, e⟩ := Lt_trod ht
        simp only [List.cons.injEq, and_true] at e
        obtain ⟨rfl, rfl, rfl, rfl, rfl⟩ := e
        exact ⟨q, fun _ => ⟨k0, k1, k2, k3, k4⟩⟩
      · exact ⟨noLt, fun h => absurd h hi⟩
    obtain ⟨f, hfun⟩ := Classical.axiomOfChoice each'
    refine ⟨some x, len, cap, (List.range len).map f, hcs, ⟨some x, cap, by simp, ?_⟩, by simp; omega⟩
    by_cases h0 : len = 0
    · exact .inl (by rw [h0]; rfl)
    · obtain ⟨b, off, spot⟩ := x
      obtain ⟨k0, -⟩ := hfun 0 (by omega)
      have hspot : spot = none := by
        have := World.cell?_spot k0
        simpa [Addr.add] using this
      subst hspot
      refine .inr ⟨b, off, rfl, ?_, fun j hj => ?_⟩
      · have := World.block_lt_of_cell? _ _ k0
        simpa [Addr.add] using this
      · have hj' : j < len := by simpa using hj
        obtain ⟨k0, k1, k2, k3, k4⟩ := hfun j hj'
        rw [add_plain, add_plain] at k0 k1 k2 k3 k4
        simp only [List.getElem_map, List.getElem_range]
        exact ⟨k0, k1, k2, k3, k4⟩

theorem ofcFl : Try.prog.cellsOf 25 = 4 := by kernel_rfl
theorem ofcSS : Try.prog.cellsOf 22 = 1 := by kernel_rfl
theorem ofcLts : Try.prog.cellsOf 23 = 1 := by kernel_rfl
theorem flood_of {H : Type} {enc : TypeId × Value → H} {W : World} {r : Reach} {base : Nat} {v : Value} {d : DataW H} {p : List MemPlace} (hv : Value.okWide Try.prog W r base 25 v) (h : DataW.Trod enc Try.prog W 0 (fun _ => true) true 25 v d p) :
    ∃ (x y z l : Value) (f : FD), v = .agg #[x, y, z, l] ∧ ReadsF W x y z l f ∧ MaxF f := by
  obtain ⟨cs, rfl, hsz⟩ := okWide_struct Try.underlying25 hv
  obtain ⟨fuel, hf⟩ := h
  obtain ⟨y0, y1, y2, y3, n, hx, hl, h0, h1, h2, h3⟩ := Go.Joins.trod_struct4 Try.underlying25 hf
  simp only [Value.cells] at hl h0 h1 h2 h3
  rw [ofcFl] at hl
  obtain ⟨l, rfl⟩ : ∃ l : List Value, cs = l.toArray := ⟨cs.toList, by simp⟩
  simp only at hl h0 h1 h2 h3
  obtain ⟨c0, c1, c2, c3, rfl⟩ : ∃ c0 c1 c2 c3, l = [c0, c1, c2, c3] := by
    match l, hl with
    | [c0, c1, c2, c3], _ => exact ⟨c0, c1, c2, c3, rfl⟩
  simp only [ofcSS, ofcLts, List.drop_zero, List.drop_succ_cons, List.take_succ_cons, List.take_zero] at h0 h1 h2 h3
  obtain ⟨a0, m0, d0, z0, e0, r0, l0, i0⟩ := SS_trod h0
  obtain ⟨a1, m1, d1, z1, e1, r1, l1, i1⟩ := SS_trod h1
  obtain ⟨a2, m2, d2, z2, e2, r2, l2, i2⟩ := SS_trod h2
  obtain ⟨a3, m3, d3, z3, e3, r3, l3⟩ := Lts_trod h3
  simp only [List.cons.injEq, and_true] at e0 e1 e2 e3
  subst e0 e1 e2 e3
  exact ⟨_, _, _, _, ⟨z0, z1, z2, z3⟩, rfl, ⟨r0, r1, r2, r3⟩, ⟨l0, i0, l1, i1, l2, i2, l3⟩⟩
end Go.Proofs.Ytkkamigaolejiax
