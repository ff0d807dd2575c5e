/-
  'append(ll, l)' of one list onto a list of lists that a call owns.
-/
import Derived.Test.YthlbmkefjjckaagRowSS
import Derived.WideShapes
namespace Go.Proofs.Ythlbmkefjjckaag
open Go.RowKit
set_option linter.unusedVariables false

theorem run_appSS (w : World) (B : Nat) (v : Value) (vs : List Value) (a : Option Addr) (n c : Nat) (hown : w.ownsRow B 22 1 v vs.length vs) (hl : vs.length ≤ 1048576) (hB : B ≤ w.heap.size) (ty : TypeId) :
    ∃ v' w', (Builtin.append_ #[47, 47] ty #[v, .slice (some ⟨w.heap.size, 0, none⟩) 1 1]).run Try.prog (w.alloc (.cells #[.slice a n c] 22)) = .ok v' w' ∧ Grown (w.alloc (.cells #[.slice a n c] 22)) B 22 1 v (vs ++ [Value.slice a n c]).length (vs ++ [Value.slice a n c]) v' w' := by
  obtain ⟨i0, hi, hz0, hz1, hz2⟩ := info_parts infoSS
  have := run_app (w.alloc (.cells #[.slice a n c] 22)) B 47 ty 22 i0 (.slice none 0 0) 1 24 Try.underlying47 hi hz0 hz1 hz2 rfl (by decide) v vs.length vs (rowBelow hown ((Below.refl _ w).alloc (Nat.le_refl _) _)) (.slice (some ⟨w.heap.size, 0, none⟩) 1 1) 1 [.slice a n c] (.inr ⟨_, 1, rfl, fun j u hu => by
    rw [Go.WideShapes.add_plain, Nat.zero_add, World.cell?_alloc_at _ _ _ _ rfl]
    simpa using hu⟩) rfl (fun u hu => by simp at hu; subst hu; rfl) (by unfold maxLen; omega) (by omega) (by simp; omega)
  rw [List.length_append]
  exact this

/-- What is owned behind it. -/
theorem OwnSS.add {w w' : World} {B : Nat} {v v' : Value} {vs : List Value} {zss : List (List Int)} {a : Option Addr} {n c : Nat} {zs : List Int} (h : OwnSS w B v vs zss) (hx : Own w B (.slice a n c) zs)
    (hap : ∀ j (hj : j < vs.length), ∀ k, vs[j].ownBlock = some k → (Value.slice a n c).ownBlock ≠ some k)
    (hg : Grown (w.alloc (.cells #[.slice a n c] 22)) B 22 1 v (vs ++ [Value.slice a n c]).length (vs ++ [Value.slice a n c]) v' w') : OwnSS w' B v' (vs ++ [Value.slice a n c]) (zss ++ [zs]) := by
  have hb : Below w.heap.size w (w.alloc (.cells #[.slice a n c] 22)) := (Below.refl _ w).alloc (Nat.le_refl _) _
  have hlen := h.len
  have keep : ∀ {u : Value} {ys : List Int}, Own w B u ys → Own w' B u ys := fun hu => rowGrow (rowBelow hu hb) hg.grown fun k hk hk2 => rowsApart h.row hu (by decide) k hk hk2
  refine ⟨by simp [hlen], hg.own, fun j hj => ?_, fun i j hi hj hij k hk hk2 => ?_⟩
  · by_cases e : j < vs.length
    · rw [List.getElem_append_left e, List.getElem_append_left (by omega)]
      exact keep (h.inner j e)
    · have ej : j = vs.length := by simp at hj; omega
      subst ej
      rw [List.getElem_append_right (Nat.le_refl _), List.getElem_append_right (by omega)]
      simp only [Nat.sub_self, hlen, List.getElem_cons_zero]
      exact keep hx
  · by_cases ei : i < vs.length
    · rw [List.getElem_append_left ei] at hk
      by_cases ej : j < vs.length
      · rw [List.getElem_append_left ej] at hk2
        exact h.apart i j ei ej hij k hk hk2
      · have e : j = vs.length := by simp at hj; omega
        subst e
        rw [List.getElem_append_right (Nat.le_refl _)] at hk2
        simp only [Nat.sub_self, List.getElem_cons_zero] at hk2
        exact hap i ei k hk hk2
    · have e : i = vs.length := by simp at hi; omega
      subst e
      have ej : j < vs.length := by simp at hj; omega
      rw [List.getElem_append_right (Nat.le_refl _)] at hk
      simp only [Nat.sub_self, List.getElem_cons_zero] at hk
      rw [List.getElem_append_left ej] at hk2
      exact hap j ej k hk2 hk
theorem OwnSS.nil (W : World) (B : Nat) : OwnSS W B (.slice none 0 0) [] [] := ⟨rfl, World.ownsRow_nil W B _ 1, fun j hj => absurd hj (Nat.not_lt_zero _), fun i j hi => absurd hi (Nat.not_lt_zero _)⟩

/-- A number is appended to the first list, and what comes of it is stored in its place. -/
theorem OwnSS.put0 {w w' : World} {B : Nat} {g k c6 : Nat} {v' : Value} {vs : List Value} {zss : List (List Int)} {o : Obj} {z : Int} (h : OwnSS w B (.slice (some ⟨g, 0, none⟩) k c6) vs zss) (h0 : 0 < vs.length) (h0z : 0 < zss.length)
    (hg : Grown (w.alloc o) B 3 1 vs[0] (zss[0] ++ [z]).length ((zss[0] ++ [z]).map (Value.int .i64)) v' w') : OwnSS (w'.setCell ⟨g, 0, none⟩ v') B (.slice (some ⟨g, 0, none⟩) k c6) (vs.set 0 v') (zss.set 0 (zss[0] ++ [z])) := by
  have hb : Below w.heap.size w (w.alloc o) := (Below.refl _ w).alloc (Nat.le_refl _) _
  have hlen := h.len
  have hsz : (w.alloc o).heap.size = w.heap.size + 1 := by simp
  have hgk : ∀ b, vs[0].ownBlock = some b → b ≠ g := fun b hbk e => rowsApart h.row (h.inner 0 h0) (by decide) g rfl (by rw [← e]; exact hbk)
  have hglt : g < w.heap.size := (World.ownsRow.lt h.row g rfl).2
  have hrow : w'.ownsRow B 22 1 (.slice (some ⟨g, 0, none⟩) k c6) vs.length vs := rowGrow (rowBelow h.row hb) hg.grown fun b hbk e => hgk b hbk (by simpa [Value.ownBlock] using e.symm)
  have hvg : ∀ b, v'.ownBlock = some b → b ≠ g := fun b hbk e => by
    rcases hg.lies with h1 | h1
    · exact hgk b (by rw [← h1]; exact hbk) e
    · rw [h1, hsz] at hbk
      simp at hbk
      omega
  have keepS : ∀ {e : TypeId} {size n : Nat} {x : Value} {xs : List Value}, w'.ownsRow B e size x n xs → (∀ b, x.ownBlock = some b → b ≠ g) → (w'.setCell ⟨g, 0, none⟩ v').ownsRow B e size x n xs := fun hx hne => rowSame hx fun b hbk => Below.heap_setCell _ _ _ _ (hne b hbk)
  have hrow' := hrow
  rw [show k = vs.length from by rcases h.row.2 with ⟨hv, -⟩ | ⟨_, _, _, hv, -⟩ <;> simp at hv; exact hv.2.1] at hrow'
  refine ⟨by simp [hlen], ?_, fun j hj => ?_, fun i j hi hj hij b hbi hbj => ?_⟩
  · have hst := (World.ownsRow.stored hrow' 0 v').1
    rw [List.length_set]
    rw [show k = vs.length from by rcases h.row.2 with ⟨hv, -⟩ | ⟨_, _, _, hv, -⟩ <;> simp at hv; exact hv.2.1]
    exact hst
  · have hj' : j < vs.length := by simpa using hj
    by_cases e : j = 0
    · subst e
      rw [List.getElem_set_self, List.getElem_set_self]
      exact keepS hg.own hvg
    · rw [List.getElem_set_ne (fun h => e h.symm), List.getElem_set_ne (fun h => e h.symm)]
      refine keepS (rowGrow (rowBelow (h.inner j hj') hb) hg.grown fun b hbk hbk2 => h.apart 0 j h0 hj' (fun h => e h.symm) b hbk hbk2) fun b hbk e2 => ?_
      exact rowsApart h.row (h.inner j hj') (by decide) g rfl (by rw [← e2]; exact hbk)
  · have hi' : i < vs.length := by simpa using hi
    have hj' : j < vs.length := by simpa using hj
    have key : ∀ n (hn : n < vs.length), n ≠ 0 → ∀ b, v'.ownBlock = some b → vs[n].ownBlock ≠ some b := fun n hn hn0 b hb1 hb2 => by
      rcases hg.lies with h1 | h1
      · exact h.apart 0 n h0 hn (fun e => hn0 e.symm) b (by rw [← h1]; exact hb1) hb2
      · rw [h1, hsz] at hb1
        simp at hb1
        have := (World.ownsRow.lt (h.inner n hn) b hb2).2
        omega
    by_cases ei : i = 0
    · subst ei
      rw [List.getElem_set_self] at hbi
      rw [List.getElem_set_ne (fun h => hij h)] at hbj
      exact key j hj' (fun e => hij e.symm) b hbi hbj
    · rw [List.getElem_set_ne (fun h => ei h.symm)] at hbi
      by_cases ej : j = 0
      · subst ej
        rw [List.getElem_set_self] at hbj
        exact key i hi' ei b hbj hbi
      · rw [List.getElem_set_ne (fun h => ej h.symm)] at hbj
        exact h.apart i j hi' hj' hij b hbi hbj
end Go.Proofs.Ythlbmkefjjckaag
