/-
  'l3Own' of the model: a copy of a pair.
-/
import Derived.Test.YtchddjidjfpehaaHear
namespace Go.Proofs.Ytchddjidjfpehaa
open Go.RowKit

/-- An empty row, just made. -/
def Emp (e : TypeId) (w : World) (g : Nat) : Prop := w.heap[g]? = some (.cells #[] e (0, 0))
theorem Emp.lt {e : TypeId} {w : World} {g : Nat} (h : Emp e w g) : g < w.heap.size := (Array.getElem?_eq_some_iff.1 h).1
theorem emp_new {e : TypeId} {w : World} {g : Nat} (h : g = w.heap.size) : Emp e (w.alloc (.cells #[] e)) g := by
  subst h
  show (w.heap.push _)[w.heap.size]? = _
  simp
theorem emp_al {e : TypeId} {w : World} {g : Nat} (h : Emp e w g) (o : Obj) : Emp e (w.alloc o) g := (Below.heap_alloc w o g h.lt).trans h
theorem emp_drew {e : TypeId} {w : World} {g : Nat} (h : Emp e w g) : Emp e w.drew g := h
theorem emp_grow {e : TypeId} {w w' : World} {g : Nat} {row : Option Nat} (hg : w.grownBy w' row) (hne : row ≠ some g) (h : Emp e w g) : Emp e w' g := (hg.block g h.lt (fun e => hne e.symm)).trans h
theorem Emp.ints {w : World} {g B : Nat} (h : Emp 3 w g) (hB : B ≤ g) : Own w B (.slice (some ⟨g, 0, none⟩) 0 0) [] := ⟨rfl, .inr ⟨g, 0, #[], rfl, hB, h, Nat.le_refl _, by unfold maxLen; omega, rfl, rfl⟩⟩
theorem Emp.hellos {w : World} {g B : Nat} (h : Emp 61 w g) (hB : B ≤ g) : OwnH w B (.slice (some ⟨g, 0, none⟩) 0 0) [] := ⟨rfl, .inr ⟨g, 0, #[], rfl, hB, h, Nat.le_refl _, by unfold maxLen; omega, rfl, rfl⟩⟩
theorem Since.al {B : Nat} {w0 w : World} (h : Since B w0 w) (o : Obj) : Since B w0 (w.alloc o) := h.step ((Below.refl _ w).alloc (Nat.le_refl _) o)
theorem Since.growI {B : Nat} {w0 w : World} {v : Value} {zs : List Int} {v' : Value} {w' : World} (h : Since B w0 w) (hg : GrewI w B v zs v' w') : Since B w0 w' := ⟨h.1.trans hg.below, Nat.le_trans h.2 hg.size⟩
theorem Since.growH {B : Nat} {w0 w : World} {v : Value} {hs : List HD} {v' : Value} {w' : World} (h : Since B w0 w) (hg : GrewH w B v hs v' w') : Since B w0 w' := ⟨h.1.trans hg.below, Nat.le_trans h.2 hg.size⟩
theorem Bx3.since {B : Nat} {w0 w : World} {b : Nat} {x y z : Value} (h : Bx3 w0 b x y z) (hS : Since B w0 w) (hb : b < B) : Bx3 w b x y z :=
  h.same (hS.1.block b hb) hS.1.size
theorem Own.al {W : World} {B : Nat} {v : Value} {zs : List Int} (h : Own W B v zs) (o : Obj) : Own (W.alloc o) B v zs := h.alloc o

theorem second_row {X w6 w10 : World} {H : Nat} {v6 v10 : Value} {st lf : List Int} {b3 b7 n6 : Nat} (O6 : Own w6 H v6 st) (L6 : v6.ownBlock = (Value.slice (some ⟨b3, 0, none⟩) 0 0).ownBlock ∨ v6.ownBlock = some n6)
    (hg : GrewI X H (.slice (some ⟨b7, 0, none⟩) 0 0) lf v10 w10) (hX : Since w6.heap.size w6 X) (hb : w6.heap.size ≤ b7 ∨ (b7 ≠ b3 ∧ b7 ≠ n6)) : (∀ k, v6.ownBlock = some k → v10.ownBlock ≠ some k) ∧ Own w10 H v6 st := by
  have h7 : ∀ k, v6.ownBlock = some k → k ≠ b7 := fun k hk e => by
    rcases hb with hb | ⟨h1, h2⟩
    · have := (World.ownsRow.lt O6 k hk).2
      omega
    · rcases L6 with e6 | e6
      · rw [e6] at hk
        have : b3 = k := by simpa [Value.ownBlock] using hk
        omega
      · rw [e6] at hk
        have : n6 = k := by simpa using hk
        omega
  refine ⟨fun k hk hk2 => ?_, (O6.below hX.1).grow hg.grown (fun k hk hv => ?_)⟩
  · rcases hg.lies with e | e
    · rw [e] at hk2
      have : b7 = k := by simpa [Value.ownBlock] using hk2
      exact h7 k hk this.symm
    · rw [e] at hk2
      have h1 : X.heap.size = k := by simpa using hk2
      have h2 := (World.ownsRow.lt O6 k hk).2
      have h3 := hX.2
      omega
  · have : b7 = k := by simpa [Value.ownBlock] using hk
    exact h7 k hv this.symm
theorem third_row {X w10 w14 : World} {H b11 : Nat} {v6 v10 v14 : Value} {st lf : List Int} {ln : List HD} (O6 : Own w10 H v6 st) (O10 : Own w10 H v10 lf) (ap : ∀ k, v6.ownBlock = some k → v10.ownBlock ≠ some k)
    (hg : GrewH X H (.slice (some ⟨b11, 0, none⟩) 0 0) ln v14 w14) (he : Emp 61 X b11) (hX : Since w10.heap.size w10 X) : Own3 w14 H v6 v10 v14 ⟨st, lf, ln⟩ :=
  ⟨(O6.below hX.1).grow hg.grown (hello_apart (he.hellos (Nat.zero_le _)) (O6.below hX.1)), (O10.below hX.1).grow hg.grown (hello_apart (he.hellos (Nat.zero_le _)) (O10.below hX.1)), hg.own, ap⟩

set_option maxRecDepth 100000 in
set_option maxHeartbeats 8000000 in
theorem l3Own_any (W : World) (B : Nat) (x y z : Value) (p : PR) (h : Own3 W B x y z p) (h1 : p.st.length ≤ 1048576) (h2 : p.lf.length ≤ 1048576) (h3 : p.ln.length ≤ 1048576) :
    Calls Try.prog 57 #[.agg #[x, y, z]] W fun e W' => ∃ x' y' z', e = .returned (.agg #[x', y', z']) ∧ Own3 W' W.heap.size x' y' z' p ∧ Below W.heap.size W W' := by
  obtain ⟨a1, c1, rfl⟩ := h.st.shape
  obtain ⟨a2, c2, rfl⟩ := h.lf.shape
  obtain ⟨a3, c3, rfl⟩ := h.ln.shape
  have HR : Hid (∀ W1, Below W.heap.size W W1 → Own3 W1 B (.slice a1 p.st.length c1) (.slice a2 p.lf.length c2) (.slice a3 p.ln.length c3) p) := fun W1 hb => h.below hb
  obtain ⟨W2, hW2⟩ : ∃ W2, W2 = ((W.alloc (.cells #[.slice a1 p.st.length c1, .slice a2 p.lf.length c2, .slice a3 p.ln.length c3] 40)).alloc (.cells #[.slice none 0 0, .slice none 0 0, .slice none 0 0] 40)) := ⟨_, rfl⟩
  have hz2 : W2.heap.size = W.heap.size + 2 := by rw [hW2]; simp
  have HBW : Hid (Below W.heap.size W W2) := by show Below _ _ _; rw [hW2]; exact ((Below.refl _ W).alloc (Nat.le_refl _) _).alloc (by simp) _
  have HS0 : Since (W.heap.size + 2) W2 W2 := ⟨Below.refl _ _, by omega⟩
  have HX0 : Hid (Bx3 W2 W.heap.size (.slice a1 p.st.length c1) (.slice a2 p.lf.length c2) (.slice a3 p.ln.length c3)) := by show Bx3 _ _ _ _ _; rw [hW2]; exact (Bx3.new _ _ _ _ _).below ((Below.refl _ _).alloc (Nat.le_refl _) _)
  have HY0 : Hid (Bx3 W2 (W.heap.size + 1) (.slice none 0 0) (.slice none 0 0) (.slice none 0 0)) := by
    show Bx3 _ _ _ _ _
    rw [hW2]
    have := Bx3.new (W.alloc (.cells #[.slice a1 p.st.length c1, .slice a2 p.lf.length c2, .slice a3 p.ln.length c3] 40)) (.slice none 0 0) (.slice none 0 0) (.slice none 0 0) 40
    exact (show Bx3 _ _ _ _ _ by simpa using this)
  have HK : Hid (∀ w, Since (W.heap.size + 2) W2 w → w.cell? ⟨W.heap.size, 0, none⟩ = some (.slice a1 p.st.length c1) ∧ w.cell? ⟨W.heap.size, 1, none⟩ = some (.slice a2 p.lf.length c2) ∧ w.cell? ⟨W.heap.size, 2, none⟩ = some (.slice a3 p.ln.length c3)) := fun w hS => (HX0.out.since hS (by omega)).cells
  have HO : Hid (∀ w, Since (W.heap.size + 2) W2 w → Own3 w B (.slice a1 p.st.length c1) (.slice a2 p.lf.length c2) (.slice a3 p.ln.length c3) p) := fun w hS => HR.out w (HBW.out.trans (hS.1.mono (by omega)))
  have C6 : Hid (∀ w g, Since (W.heap.size + 2) W2 w → Emp 3 w g → W.heap.size + 2 ≤ g → ∀ ty, ∃ v' w', (Builtin.append_ #[37, 37] ty #[.slice (some ⟨g, 0, none⟩) 0 0, .slice a1 p.st.length c1]).run Try.prog w = .ok v' w' ∧ GrewI w (W.heap.size + 2) (.slice (some ⟨g, 0, none⟩) 0 0) p.st v' w') := fun w g hS he hg ty =>
    run_catI w _ _ [] (he.ints hg) _ p.st (Source.row (HO.out w hS).st) (by simp; omega) hS.2 ty
  have C10 : Hid (∀ w g, Since (W.heap.size + 2) W2 w → Emp 3 w g → W.heap.size + 2 ≤ g → ∀ ty, ∃ v' w', (Builtin.append_ #[37, 37] ty #[.slice (some ⟨g, 0, none⟩) 0 0, .slice a2 p.lf.length c2]).run Try.prog w = .ok v' w' ∧ GrewI w (W.heap.size + 2) (.slice (some ⟨g, 0, none⟩) 0 0) p.lf v' w') := fun w g hS he hg ty =>
    run_catI w _ _ [] (he.ints hg) _ p.lf (Source.row (HO.out w hS).lf) (by simp; omega) hS.2 ty
  have C14 : Hid (∀ w g, Since (W.heap.size + 2) W2 w → Emp 61 w g → W.heap.size + 2 ≤ g → ∀ ty, ∃ v' w', (Builtin.append_ #[38, 38] ty #[.slice (some ⟨g, 0, none⟩) 0 0, .slice a3 p.ln.length c3]).run Try.prog w = .ok v' w' ∧ GrewH w (W.heap.size + 2) (.slice (some ⟨g, 0, none⟩) 0 0) p.ln v' w') := fun w g hS he hg ty =>
    run_catH w _ _ [] (he.hellos hg) _ p.ln (Source.row (HO.out w hS).ln) (by simp; omega) hS.2 ty
  have HS0 : Since (W.heap.size + 2) W2 ((W.alloc (.cells #[.slice a1 p.st.length c1, .slice a2 p.lf.length c2, .slice a3 p.ln.length c3] 40)).alloc (.cells #[.slice none 0 0, .slice none 0 0, .slice none 0 0] 40)) := by rw [← hW2]; exact HS0
  have hBX : Below W.heap.size W W2 := HBW.out
  have HYY : Hid (∀ w, Since (W.heap.size + 2) W2 w → Bx3 w (W.heap.size + 1) (.slice none 0 0) (.slice none 0 0) (.slice none 0 0)) := fun w hS => HY0.out.since hS (by omega)
  have HXX : Hid (∀ w, Since (W.heap.size + 2) W2 w → Bx3 w W.heap.size (.slice a1 p.st.length c1) (.slice a2 p.lf.length c2) (.slice a3 p.ln.length c3)) := fun w hS => HX0.out.since hS (by omega)
  clear h hW2 hz2
  go_enter Try.func57, Try.ntmps57
  go_wp2
  go_region_held3 (fun w' => w'.cell? ⟨W.heap.size, 0, none⟩ = some (.slice a1 p.st.length c1) ∧ w'.cell? ⟨W.heap.size, 1, none⟩ = some (.slice a2 p.lf.length c2) ∧ w'.cell? ⟨W.heap.size, 2, none⟩ = some (.slice a3 p.ln.length c3))
    (first | with_reducible exact HF.cells | (refine Bx3.cells (Bx3.other (Bx3.other (Bx3.other HF ?_ _) ?_ _) ?_ _) <;> simp) | (refine HK.out _ ?_; (focus (repeat (first | with_reducible exact HS10 | with_reducible exact HS6 | with_reducible exact HS0 | with_reducible refine Since.al ?_ _ | with_reducible refine Since.drew ?_ | fail)))) | fail)
    (first
      | (refine step_cat (by rfl) (.tmp 3) (.tmp 5) 37 (by rfl) (.slice (some ⟨_, 0, none⟩) 0 0) (.slice a1 p.st.length c1) (by rfl) (by rfl) _ (C6.out _ _ ?_ ?_ ?_) ?_; (focus (repeat (first | with_reducible exact HS10 | with_reducible exact HS6 | with_reducible exact HS0 | with_reducible refine Since.al ?_ _ | with_reducible refine Since.drew ?_ | fail))); (focus (repeat (first | with_reducible refine emp_drew ?_ | (refine emp_new ?_; simp <;> fail) | with_reducible refine emp_al ?_ _ | (with_reducible refine emp_grow hg10.grown ?_ ?_; (focus (simp [Value.ownBlock] <;> omega))) | (with_reducible refine emp_grow hg6.grown ?_ ?_; (focus (simp [Value.ownBlock] <;> omega))) | fail))); (focus (first | omega | (simp <;> omega) | fail)); intro v6 w6 hg6; have HS6 : Since (W.heap.size + 2) W2 w6 := (by refine Since.growI ?_ hg6; (focus (repeat (first | with_reducible exact HS10 | with_reducible exact HS6 | with_reducible exact HS0 | with_reducible refine Since.al ?_ _ | with_reducible refine Since.drew ?_ | fail)))); have hz6 := HS6.2; have hy6 := hg6.size; (try simp at hy6); have O6 := hg6.own; obtain ⟨e6, d6, rfl⟩ := O6.shape; have L6 := hg6.lies)
      | (refine step_cat (by rfl) (.tmp 7) (.tmp 9) 37 (by rfl) (.slice (some ⟨_, 0, none⟩) 0 0) (.slice a2 p.lf.length c2) (by rfl) (by rfl) _ (C10.out _ _ ?_ ?_ ?_) ?_; (focus (repeat (first | with_reducible exact HS10 | with_reducible exact HS6 | with_reducible exact HS0 | with_reducible refine Since.al ?_ _ | with_reducible refine Since.drew ?_ | fail))); (focus (repeat (first | with_reducible refine emp_drew ?_ | (refine emp_new ?_; simp <;> fail) | with_reducible refine emp_al ?_ _ | (with_reducible refine emp_grow hg10.grown ?_ ?_; (focus (simp [Value.ownBlock] <;> omega))) | (with_reducible refine emp_grow hg6.grown ?_ ?_; (focus (simp [Value.ownBlock] <;> omega))) | fail))); (focus (first | omega | (simp <;> omega) | fail)); intro v10 w10 hg10; have HS10 : Since (W.heap.size + 2) W2 w10 := (by refine Since.growI ?_ hg10; (focus (repeat (first | with_reducible exact HS10 | with_reducible exact HS6 | with_reducible exact HS0 | with_reducible refine Since.al ?_ _ | with_reducible refine Since.drew ?_ | fail)))); have hz10 := HS10.2; have hy10 := hg10.size; (try simp at hy10); have O10 := hg10.own; obtain ⟨e10, d10, rfl⟩ := O10.shape;
         obtain ⟨A610, O610⟩ : (∀ k, (Value.slice e6 p.st.length d6).ownBlock = some k → (Value.slice e10 p.lf.length d10).ownBlock ≠ some k) ∧ Own w10 (W.heap.size + 2) (.slice e6 p.st.length d6) p.st := (by refine second_row O6 L6 hg10 ?_ ?_; (focus (repeat (first | with_reducible exact Since.start _ | with_reducible refine Since.al ?_ _ | with_reducible refine Since.drew ?_ | fail))); (focus (first | omega | (simp <;> omega) | fail))))
      | (refine step_cat (by rfl) (.tmp 11) (.tmp 13) 38 (by rfl) (.slice (some ⟨_, 0, none⟩) 0 0) (.slice a3 p.ln.length c3) (by rfl) (by rfl) _ (C14.out _ _ ?_ ?_ ?_) ?_; (focus (repeat (first | with_reducible exact HS10 | with_reducible exact HS6 | with_reducible exact HS0 | with_reducible refine Since.al ?_ _ | with_reducible refine Since.drew ?_ | fail))); (focus (repeat (first | with_reducible refine emp_drew ?_ | (refine emp_new ?_; simp <;> fail) | with_reducible refine emp_al ?_ _ | (with_reducible refine emp_grow hg10.grown ?_ ?_; (focus (simp [Value.ownBlock] <;> omega))) | (with_reducible refine emp_grow hg6.grown ?_ ?_; (focus (simp [Value.ownBlock] <;> omega))) | fail))); (focus (first | omega | (simp <;> omega) | fail)); intro v14 w14 hg14; have HS14 : Since (W.heap.size + 2) W2 w14 := (by refine Since.growH ?_ hg14; (focus (repeat (first | with_reducible exact HS10 | with_reducible exact HS6 | with_reducible exact HS0 | with_reducible refine Since.al ?_ _ | with_reducible refine Since.drew ?_ | fail)))); have hz14 := HS14.2; have O14 := hg14.own; obtain ⟨e14, d14, rfl⟩ := O14.shape;
         have HF := HXX.out _ HS14; obtain ⟨y0, y1, y2, y3, yf⟩ := HYY.out _ HS14;
         have O3 : Own3 w14 (W.heap.size + 2) (.slice e6 p.st.length d6) (.slice e10 p.lf.length d10) (.slice e14 p.ln.length d14) p := (by refine third_row O610 O10 A610 hg14 ?_ ?_; (focus (repeat (first | with_reducible refine emp_drew ?_ | (refine emp_new ?_; simp <;> fail) | with_reducible refine emp_al ?_ _ | (with_reducible refine emp_grow hg10.grown ?_ ?_; (focus (simp [Value.ownBlock] <;> omega))) | (with_reducible refine emp_grow hg6.grown ?_ ?_; (focus (simp [Value.ownBlock] <;> omega))) | fail))); (focus (repeat (first | with_reducible exact Since.start _ | with_reducible refine Since.al ?_ _ | with_reducible refine Since.drew ?_ | fail)))))
      | fail)
  all_goals
    go_wp2
    refine bodyPost_ret (v := .agg #[.slice e6 p.st.length d6, .slice e10 p.lf.length d10, .slice e14 p.ln.length d14]) (by simp [results, Try.results57, go_sem, y1, y2, y3]) rfl ⟨_, _, _, rfl, ?_, ?_⟩
    · refine (((O3.setCell ?_ _).setCell ?_ _).setCell ?_ _).mono (by omega) <;> simp
    · exact (((hBX.trans (HS14.1.mono (by omega))).setCell (by simp) _).setCell (by simp) _).setCell (by simp) _
end Go.Proofs.Ytchddjidjfpehaa
