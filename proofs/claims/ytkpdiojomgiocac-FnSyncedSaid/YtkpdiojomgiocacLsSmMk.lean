/-
  'markSummaryS' and 'heldSummaryS' of the laws.
-/
import Derived.Test.YtkpdiojomgiocacLsSmRow
namespace Go.Proofs.Ytkpdiojomgiocac
open Go.RowKit
set_option linter.unusedVariables false

theorem cellsSm_set : ∀ (es : List SmE) (i : Nat) (x : SmD) (h : i < es.length), cellsSm (es.set i ⟨x, es[i].u⟩) = ((cellsSm es).set (i * 3) (.int .i64 x.Lo)).set (i * 3 + 1) (.int .i64 x.Hi)
  | e :: es, 0, x, _ => rfl
  | e :: es, i + 1, x, h => by
    have e1 : (i + 1) * 3 = i * 3 + 1 + 1 + 1 := by omega
    simp only [List.set_cons_succ, cellsSm, List.getElem_cons_succ, e1]
    rw [cellsSm_set es i x (by simpa using h)]
theorem cellsSm_same : ∀ (es : List SmE) (i : Nat) (hs : List HvD) (h : i < es.length), cellsSm (es.set i ⟨⟨es[i].s.Lo, es[i].s.Hi, hs⟩, es[i].u⟩) = cellsSm es
  | e :: es, 0, hs, _ => rfl
  | e :: es, i + 1, hs, h => by
    simp only [List.set_cons_succ, cellsSm, List.getElem_cons_succ]
    rw [cellsSm_same es i hs (by simpa using h)]
/-- The two numbers of a summary are written. -/
theorem OwnSm.put {W : World} {B g c : Nat} {es : List SmE} (h : OwnSm W B (.slice (some ⟨g, 0, none⟩) es.length c) es) (i : Nat) (hi : i < es.length) (lo hh : Int) :
    OwnSm ((W.setCell ⟨g, i * 3, none⟩ (.int .i64 lo)).setCell ⟨g, i * 3 + 1, none⟩ (.int .i64 hh)) B (.slice (some ⟨g, 0, none⟩) es.length c) (es.set i ⟨⟨lo, hh, es[i].s.Hs⟩, es[i].u⟩) := by
  have h1 := (World.ownsRow.stored h.row (i * 3) (.int .i64 lo)).1
  have h2 := (World.ownsRow.stored h1 (i * 3 + 1) (.int .i64 hh)).1
  have hin : ∀ {u : Value} {l : List HvD}, OwnHv W B u l → OwnHv ((W.setCell ⟨g, i * 3, none⟩ (.int .i64 lo)).setCell ⟨g, i * 3 + 1, none⟩ (.int .i64 hh)) B u l := fun {u l} ho => rowSame ho fun k hk => by
    have hne : k ≠ g := fun e => rowsApart h.row ho (by decide) g rfl (by rw [← e]; exact hk)
    exact (Below.heap_setCell _ _ _ _ (fun e => hne (by rw [e]))).trans (Below.heap_setCell _ _ _ _ (fun e => hne (by rw [e])))
  refine ⟨?_, fun j hj => ?_, fun a b ha hb hab => ?_⟩
  · rw [List.length_set, cellsSm_set es i ⟨lo, hh, es[i].s.Hs⟩ hi]
    exact h2
  · have hj' : j < es.length := by simpa using hj
    rw [List.getElem_set]
    split
    · next e => subst e; exact hin (h.inner i hi)
    · exact hin (h.inner j hj')
  · have ha' : a < es.length := by simpa using ha
    have hb' : b < es.length := by simpa using hb
    have eu : ∀ k (hk : k < (es.set i ⟨⟨lo, hh, es[i].s.Hs⟩, es[i].u⟩).length), (es.set i ⟨⟨lo, hh, es[i].s.Hs⟩, es[i].u⟩)[k].u = (es[k]'(by simpa using hk)).u := fun k hk => by
      rw [List.getElem_set]
      split
      · next e => subst e; rfl
      · rfl
    rw [eu a ha, eu b hb]
    exact h.apart a b ha' hb' hab
/-- A call writes into the list of a summary. -/
theorem OwnSm.putHs {W W' : World} {B : Nat} {v : Value} {es : List SmE} (h : OwnSm W B v es) (i : Nat) (hi : i < es.length) (hs : List HvD) (hg : W.grownBy W' es[i].u.ownBlock) (ho : OwnHv W' B es[i].u hs) : OwnSm W' B v (es.set i ⟨⟨es[i].s.Lo, es[i].s.Hi, hs⟩, es[i].u⟩) := by
  have eu : ∀ k (hk : k < (es.set i ⟨⟨es[i].s.Lo, es[i].s.Hi, hs⟩, es[i].u⟩).length), (es.set i ⟨⟨es[i].s.Lo, es[i].s.Hi, hs⟩, es[i].u⟩)[k].u = (es[k]'(by simpa using hk)).u := fun k hk => by
    rw [List.getElem_set]
    split
    · next e => subst e; rfl
    · rfl
  refine ⟨?_, fun j hj => ?_, fun a b ha hb hab => ?_⟩
  · rw [List.length_set, cellsSm_same es i hs hi]
    exact rowGrow0 h.row hg fun k hk hk2 => rowsApart h.row (h.inner i hi) (by decide) k hk2 hk
  · have hj' : j < es.length := by simpa using hj
    rw [List.getElem_set]
    split
    · next e => subst e; exact ho
    · next e => exact rowGrow0 (h.inner j hj') hg fun k hk => h.apart i j hi hj' e k hk
  · rw [eu a ha, eu b hb]
    exact h.apart a b (by simpa using ha) (by simpa using hb) hab

end Go.Proofs.Ytkpdiojomgiocac
