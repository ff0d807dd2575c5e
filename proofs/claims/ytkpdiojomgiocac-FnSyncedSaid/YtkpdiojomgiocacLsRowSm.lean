/-
  Lists of summaries: how they lie in memory; 'append' onto them.
-/
import Derived.Test.YtkpdiojomgiocacLsSync
import Derived.Test.YtkpdiojomgiocacLsLies
namespace Go.Proofs.Ytkpdiojomgiocac
open Go.RowKit
set_option linter.unusedVariables false

theorem rowGrow0 {W W' : World} {B : Nat} {e : TypeId} {size : Nat} {v : Value} {n : Nat} {xs : List Value} {row : Option Nat} (h : W.ownsRow B e size v n xs) (hg : W.grownBy W' row) (hne : ∀ k, row = some k → v.ownBlock ≠ some k) : W'.ownsRow B e size v n xs := by
  refine World.ownsRow.kept h hg ?_
  rcases hv : v.ownBlock with _ | k
  · exact .inl rfl
  · exact .inr fun e => hne k e.symm hv
/-- A summary and where its list lies. -/
structure SmE where
  s : SmD
  u : Value
theorem infoSm : (Try.prog.info? 32).map (fun i => (i.zero, i.size, i.bytes)) = some (some (.agg #[.int .i64 0, .int .i64 0, .slice none 0 0]), 3, 40) := by kernel_rfl
def cellsSm : List SmE → List Value
  | [] => []
  | x :: xs => .int .i64 x.s.Lo :: .int .i64 x.s.Hi :: x.u :: cellsSm xs
theorem cellsSm_len : ∀ es : List SmE, (cellsSm es).length = es.length * 3
  | [] => rfl
  | x :: xs => by have := cellsSm_len xs; simp only [cellsSm, List.length_cons]; omega
theorem cellsSm_app : ∀ a b : List SmE, cellsSm (a ++ b) = cellsSm a ++ cellsSm b
  | [], b => rfl
  | x :: xs, b => by simp only [List.cons_append, cellsSm, cellsSm_app xs b]
theorem cellsSm_get : ∀ (es : List SmE) (j : Nat) (hj : j < es.length), (cellsSm es)[j * 3]? = some (.int .i64 es[j].s.Lo) ∧ (cellsSm es)[j * 3 + 1]? = some (.int .i64 es[j].s.Hi) ∧ (cellsSm es)[j * 3 + 2]? = some es[j].u
  | x :: xs, 0, _ => ⟨rfl, rfl, rfl⟩
  | x :: xs, j + 1, hj => by
    have := cellsSm_get xs j (by simpa using hj)
    have e : (j + 1) * 3 = j * 3 + 1 + 1 + 1 := by omega
    simp only [cellsSm, e, List.getElem?_cons_succ, List.getElem_cons_succ]
    exact this
/-- The slice v owns the summaries es, in blocks from B on, each with a list of its own. -/
structure OwnSm (W : World) (B : Nat) (v : Value) (es : List SmE) : Prop where
  row : W.ownsRow B 32 3 v es.length (cellsSm es)
  inner : ∀ j (hj : j < es.length), OwnHv W B es[j].u es[j].s.Hs
  apart : ∀ i j (hi : i < es.length) (hj : j < es.length), i ≠ j → ∀ k, es[i].u.ownBlock = some k → es[j].u.ownBlock ≠ some k
theorem OwnSm.nil (W : World) (B : Nat) : OwnSm W B (.slice none 0 0) [] := ⟨World.ownsRow_nil W B _ 3, fun j hj => absurd hj (Nat.not_lt_zero _), fun i j hi => absurd hi (Nat.not_lt_zero _)⟩
theorem OwnSm.below {W W' : World} {B : Nat} {v : Value} {es : List SmE} (h : OwnSm W B v es) (hb : Below W.heap.size W W') : OwnSm W' B v es := ⟨rowBelow h.row hb, fun j hj => (h.inner j hj).below hb, h.apart⟩
theorem OwnSm.mono {W : World} {B B' : Nat} {v : Value} {es : List SmE} (h : OwnSm W B v es) (hB : B' ≤ B) : OwnSm W B' v es := ⟨rowMono h.row hB, fun j hj => (h.inner j hj).mono hB, h.apart⟩
theorem OwnSm.shape {W : World} {B : Nat} {v : Value} {es : List SmE} (h : OwnSm W B v es) : ∃ a cap, v = .slice a es.length cap := rowShape h.row
/-- What lies at a place of a list of summaries. -/
theorem OwnSm.at {W : World} {B : Nat} {a : Option Addr} {n c : Nat} {es : List SmE} (h : OwnSm W B (.slice a n c) es) (hn : es ≠ []) : n = es.length ∧ ∃ g, a = some ⟨g, 0, none⟩ ∧ g < W.heap.size ∧ ∀ j (hj : j < es.length), W.cell? ⟨g, j * 3, none⟩ = some (.int .i64 es[j].s.Lo) ∧ W.cell? ⟨g, j * 3 + 1, none⟩ = some (.int .i64 es[j].s.Hi) ∧ W.cell? ⟨g, j * 3 + 2, none⟩ = some es[j].u := by
  have h' := h.row
  rcases h'.2 with ⟨hv, h0⟩ | ⟨g, cap, cur, hv, hB, hg, -⟩
  · exact absurd (List.eq_nil_of_length_eq_zero h0) hn
  · simp only [Value.slice.injEq] at hv
    obtain ⟨rfl, rfl, rfl⟩ := hv
    refine ⟨rfl, g, rfl, (Array.getElem?_eq_some_iff.1 hg).1, fun j hj => ?_⟩
    obtain ⟨c0, c1, c2⟩ := cellsSm_get es j hj
    exact ⟨(World.ownsRow.cellAt h' _ (by omega)).trans c0, (World.ownsRow.cellAt h' _ (by omega)).trans c1, (World.ownsRow.cellAt h' _ (by omega)).trans c2⟩

/-- 'append' of one summary that lies in a block of its own, its list there already. -/
theorem run_appSm (w : World) (B : Nat) (v : Value) (es : List SmE) (x : SmE) (h : OwnSm w B v es) (hx : OwnHv w B x.u x.s.Hs) (hap : ∀ j (hj : j < es.length) k, es[j].u.ownBlock = some k → x.u.ownBlock ≠ some k) (hl : es.length ≤ 100000) (hB : B ≤ w.heap.size) :
    ∀ ty, ∃ v' w', (Builtin.append_ #[46, 46] ty #[v, .slice (some ⟨w.heap.size, 0, none⟩) 1 1]).run Try.prog (w.alloc (.cells #[.int .i64 x.s.Lo, .int .i64 x.s.Hi, x.u] 32)) = .ok v' w' ∧
      OwnSm w' B v' (es ++ [x]) ∧ Below B w w' := fun ty => by
  obtain ⟨i0, hi, hz0, hz1, hz2⟩ := info_parts infoSm
  have hb0 : Below w.heap.size w (w.alloc (.cells #[.int .i64 x.s.Lo, .int .i64 x.s.Hi, x.u] 32)) := (Below.refl _ w).alloc (Nat.le_refl _) _
  have h1 := h.below hb0
  have hx1 := hx.below hb0
  have hone : x.u.oneCell' = true := by obtain ⟨a, c, e⟩ := rowShape hx; rw [e]; rfl
  have := run_app (w.alloc (.cells #[.int .i64 x.s.Lo, .int .i64 x.s.Hi, x.u] 32)) B 46 ty 32 i0 _ 3 40 Try.underlying46 hi hz0 hz1 hz2 rfl (by decide) v es.length _ h1.row (.slice (some ⟨w.heap.size, 0, none⟩) 1 1) 1 (cellsSm [x]) (.inr ⟨_, _, rfl, fun j u hu => by
      rw [Go.WideShapes.add_plain, Nat.zero_add, World.cell?_alloc_at _ _ _ _ rfl]
      have e : cellsSm [x] = [.int .i64 x.s.Lo, .int .i64 x.s.Hi, x.u] := rfl
      rw [e] at hu
      simpa using hu⟩) rfl (fun u hu => by
      have e : cellsSm [x] = [.int .i64 x.s.Lo, .int .i64 x.s.Hi, x.u] := rfl
      rw [e] at hu
      simp only [List.mem_cons, List.not_mem_nil, or_false] at hu
      rcases hu with rfl | rfl | rfl
      · rfl
      · rfl
      · exact hone) (by unfold maxLen; omega) (by omega) (by simp; omega)
  obtain ⟨v', w', hr, hg⟩ := this
  refine ⟨v', w', hr, ⟨?_, fun j hj => ?_, fun i j hi hj hij k hk => ?_⟩, ?_⟩
  · rw [List.length_append, cellsSm_app]
    exact hg.own
  · have hkeep : ∀ {u : Value} {l : List HvD}, OwnHv (w.alloc (.cells #[.int .i64 x.s.Lo, .int .i64 x.s.Hi, x.u] 32)) B u l → OwnHv w' B u l := fun {u l} ho => rowGrow0 ho hg.grown (fun k hk hk2 => rowsApart h1.row ho (by decide) k hk hk2)
    by_cases e : j < es.length
    · rw [List.getElem_append_left e]
      exact hkeep (h1.inner j e)
    · have e2 : j = es.length := by simp at hj; omega
      subst e2
      simp only [List.getElem_concat_length]
      exact hkeep hx1
  · by_cases ei : i < es.length
    · rw [List.getElem_append_left ei] at hk
      by_cases ej : j < es.length
      · rw [List.getElem_append_left ej]
        exact h.apart i j ei ej hij k hk
      · have e2 : j = es.length := by simp at hj; omega
        subst e2
        simp only [List.getElem_concat_length]
        exact hap i ei k hk
    · have e2 : i = es.length := by simp at hi; omega
      subst e2
      simp only [List.getElem_concat_length] at hk
      have ej : j < es.length := by simp at hj; omega
      rw [List.getElem_append_left ej]
      exact fun e => hap j ej k e hk
  · have hBw : Below B w (w.alloc (.cells #[.int .i64 x.s.Lo, .int .i64 x.s.Hi, x.u] 32)) := (Below.refl B w).alloc hB _
    exact hBw.trans hg.below
end Go.Proofs.Ytkpdiojomgiocac
