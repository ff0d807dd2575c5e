/-
  'copyPair' of the program.
-/
import Derived.Test.YtchddjidjfpehaaCat
namespace Go.Proofs.Ytchddjidjfpehaa
open Go.RowKit

theorem Bx3.cells {W : World} {b : Nat} {x y z : Value} (h : Bx3 W b x y z) : W.cell? ⟨b, 0, none⟩ = some x ∧ W.cell? ⟨b, 1, none⟩ = some y ∧ W.cell? ⟨b, 2, none⟩ = some z := ⟨h.c0, h.c1, h.c2⟩
theorem Bx3.drew {W : World} {b : Nat} {x y z : Value} (h : Bx3 W b x y z) : Bx3 W.drew b x y z := h.below ((Below.refl _ W).drew)
theorem Own3.drew {W : World} {B : Nat} {x y z : Value} {p : PR} (h : Own3 W B x y z p) : Own3 W.drew B x y z p := h.below ((Below.refl _ W).drew)

/-- Rows of blocks that one another's growth does not touch. -/
theorem apart_of {W1 W2 : World} {B1 B2 : Nat} {x y : Value} {p q : List Int} (h1 : Own W1 B1 x p) (h2 : Own W2 B2 y q) (hb : W1.heap.size ≤ B2) : ∀ k, x.ownBlock = some k → y.ownBlock ≠ some k := fun k hk hk2 => by
  have l1 := (World.ownsRow.lt h1 k hk).2
  have l2 := (World.ownsRow.lt h2 k hk2).1
  omega

set_option maxRecDepth 100000 in
set_option maxHeartbeats 2000000 in
theorem copyPair_any (W : World) (B : Nat) (x y z : Value) (p : PR) (h : Own3 W B x y z p) (h1 : p.st.length ≤ 1048576) (h2 : p.lf.length ≤ 1048576) (h3 : p.ln.length ≤ 1048576) :
    Calls Try.prog 85 #[.agg #[x, y, z]] W fun e W' => ∃ x' y' z', e = .returned (.agg #[x', y', z']) ∧ Own3 W' W.heap.size x' y' z' p ∧ Below W.heap.size W W' := by
  obtain ⟨a1, c1, rfl⟩ := h.st.shape
  obtain ⟨a2, c2, rfl⟩ := h.lf.shape
  obtain ⟨a3, c3, rfl⟩ := h.ln.shape
  have HR : Hid (∀ W1, Below W.heap.size W W1 → Own3 W1 B (.slice a1 p.st.length c1) (.slice a2 p.lf.length c2) (.slice a3 p.ln.length c3) p) := fun W1 hb => h.below hb
  have HS0 : Since W.heap.size W (((W.alloc (.cells #[.slice a1 p.st.length c1, .slice a2 p.lf.length c2, .slice a3 p.ln.length c3] 40)).alloc (.cells #[.slice none 0 0, .slice none 0 0, .slice none 0 0] 40)).drew) := (((Since.start W).step ((Below.refl _ W).alloc (Nat.le_refl _) _)).step ((Below.refl _ _).alloc (Nat.le_refl _) _)).drew
  have HX0 : Bx3 (((W.alloc (.cells #[.slice a1 p.st.length c1, .slice a2 p.lf.length c2, .slice a3 p.ln.length c3] 40)).alloc (.cells #[.slice none 0 0, .slice none 0 0, .slice none 0 0] 40)).drew) W.heap.size (.slice a1 p.st.length c1) (.slice a2 p.lf.length c2) (.slice a3 p.ln.length c3) := ((Bx3.new _ _ _ _ _).below ((Below.refl _ _).alloc (Nat.le_refl _) _)).drew
  have HY0 : Bx3 (((W.alloc (.cells #[.slice a1 p.st.length c1, .slice a2 p.lf.length c2, .slice a3 p.ln.length c3] 40)).alloc (.cells #[.slice none 0 0, .slice none 0 0, .slice none 0 0] 40)).drew) (W.heap.size + 1) (.slice none 0 0) (.slice none 0 0) (.slice none 0 0) := by
    have := (Bx3.new (W.alloc (.cells #[.slice a1 p.st.length c1, .slice a2 p.lf.length c2, .slice a3 p.ln.length c3] 40)) (.slice none 0 0) (.slice none 0 0) (.slice none 0 0) 40).drew
    exact (show Bx3 _ _ _ _ _ by simpa using this)
  have HZ0 : W.heap.size + 2 ≤ (((W.alloc (.cells #[.slice a1 p.st.length c1, .slice a2 p.lf.length c2, .slice a3 p.ln.length c3] 40)).alloc (.cells #[.slice none 0 0, .slice none 0 0, .slice none 0 0] 40)).drew).heap.size := by simp [World.drew]
  have C1 : Hid (∀ w, Since W.heap.size W w → Calls Try.prog 76 #[.slice a1 p.st.length c1] w fun e W' => ∃ v', e = .returned v' ∧ Own W' w.heap.size v' p.st ∧ Below w.heap.size w W') := fun w hS => copyNums_any w B _ p.st (HR.out w hS.1).st h1
  have C2 : Hid (∀ w, Since W.heap.size W w → Calls Try.prog 76 #[.slice a2 p.lf.length c2] w fun e W' => ∃ v', e = .returned v' ∧ Own W' w.heap.size v' p.lf ∧ Below w.heap.size w W') := fun w hS => copyNums_any w B _ p.lf (HR.out w hS.1).lf h2
  have C3 : Hid (∀ w, Since W.heap.size W w → ∀ ty, ∃ v' w', (Builtin.append_ #[38, 38] ty #[.slice none 0 0, .slice a3 p.ln.length c3]).run Try.prog w = .ok v' w' ∧ GrewH w w.heap.size (.slice none 0 0) p.ln v' w') := fun w hS ty =>
    run_catH w w.heap.size _ [] (OwnH.nil _ _) _ p.ln (Source.row (HR.out w hS.1).ln) (by simp; omega) (Nat.le_refl _) ty
  clear h
  go_enter Try.func85, Try.ntmps85
  go_wp2
  go_region_held3 (fun w' => w'.cell? ⟨W.heap.size, 0, none⟩ = some (.slice a1 p.st.length c1) ∧ w'.cell? ⟨W.heap.size, 1, none⟩ = some (.slice a2 p.lf.length c2) ∧ w'.cell? ⟨W.heap.size, 2, none⟩ = some (.slice a3 p.ln.length c3)) (first | exact (((HX3.other (by simp) _).other (by simp) _).other (by simp) _).cells | exact HX3.cells | exact HX2.cells | exact HX1.cells | exact HX0.cells)
    (first
      | (refine step_call (by rfl) 76 #[.slice a1 p.st.length c1] (by simp [go_sem]) ((C1.out _ HS0).mono ?_); rintro e w1 ⟨v1, rfl, ho1, hb1⟩; refine ⟨_, rfl, ?_⟩; obtain ⟨e1, d1, rfl⟩ := ho1.shape; have HS1 := HS0.step hb1; have HX1 := HX0.below hb1; have HY1 := HY0.below hb1; have HZ1 := Nat.le_trans HZ0 hb1.size)
      | (refine step_call (by rfl) 76 #[.slice a2 p.lf.length c2] (by simp [go_sem]) ((C2.out _ HS1).mono ?_); rintro e w2 ⟨v2, rfl, ho2, hb2⟩; refine ⟨_, rfl, ?_⟩; obtain ⟨e2, d2, rfl⟩ := ho2.shape; have HS2 := HS1.step hb2; have HX2 := HX1.below hb2; have HY2 := HY1.below hb2; have HZ2 := Nat.le_trans HZ1 hb2.size)
      | (refine step_cat (by rfl) (.const (.slice none 0 0)) (.tmp 10) 38 (by rfl) (.slice none 0 0) (.slice a3 p.ln.length c3) (by rfl) (by rfl) _ (C3.out _ HS2) ?_; intro v3 w3 hg3; obtain ⟨e3, d3, rfl⟩ := hg3.own.shape; have HS3 := HS2.step hg3.below; have HX3 := HX2.below hg3.below; have HY3 := HY2.below hg3.below; have HZ3 := Nat.le_trans HZ2 hg3.size; obtain ⟨y0, y1, y2, y3, yf⟩ := HY3))
  all_goals
    go_wp2
    refine bodyPost_ret (v := .agg #[.slice e1 p.st.length d1, .slice e2 p.lf.length d2, .slice e3 p.ln.length d3]) (by simp [results, Try.results85, go_sem, y1, y2, y3]) rfl ⟨_, _, _, rfl, ?_, ?_⟩
    · refine (((Own3.setCell (B := W.heap.size + 2) ⟨((ho1.below hb2).below hg3.below).mono HZ0, (ho2.below hg3.below).mono HZ1, hg3.own.mono HZ2, apart_of ho1 ho2 (Nat.le_refl _)⟩ ?_ _).setCell ?_ _).setCell ?_ _).mono (by omega) <;> simp
    · exact ((HS3.1.setCell (by simp) _).setCell (by simp) _).setCell (by simp) _
end Go.Proofs.Ytchddjidjfpehaa
