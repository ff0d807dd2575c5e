/-
  What the cursor's 'part' answers: some part, its numbers in memory of its own.
-/
import Derived.Test.YtijlhjfllfjllaaDraw1
import Derived.Test.YtijlhjfllfjllaaLawPart
namespace Go.Proofs.Ytijlhjfllfjllaa
open Go.RowKit

/-- Stores into the blocks r and q, and no more. -/
inductive Sets (r q : Nat) (w : World) : World → Prop
  | refl : Sets r q w w
  | set {w' : World} (h : Sets r q w w') (b o : Nat) (hb : b = r ∨ b = q) (v : Value) : Sets r q w (w'.setCell ⟨b, o, none⟩ v)

/-- What holds of the world as a part is drawn: its numbers lie behind block q, the cursor stands, and no old block but the cursor's has turned. -/
def Mid (B : Nat) (w0 W : World) (c : Nat) (a : Option Addr) (len cap m q : Nat) (y : Value) (zs : List Int) (w : World) : Prop :=
  q < w.heap.size ∧ Own w (q + 1) y zs ∧ Cur B w0 w c a len cap m ∧ Only c W w

theorem Only.set {c : Nat} {w w' : World} (h : Only c w w') {b : Nat} (hb : w.heap.size ≤ b) (o : Nat) (v : Value) : Only c w (w'.setCell ⟨b, o, none⟩ v) := by
  have hz : (w'.setCell ⟨b, o, none⟩ v).heap.size = w'.heap.size := by simp [World.setCell]
  refine ⟨by rw [hz]; exact h.1, fun k hk hc => ?_⟩
  rw [Below.heap_setCell _ _ _ _ (by show k ≠ b; omega)]
  exact h.2 k hk hc
theorem Mid.sets {B : Nat} {w0 W : World} {c : Nat} {a : Option Addr} {len cap m r q : Nat} {y : Value} {zs : List Int} {w w' : World} (h : Mid B w0 W c a len cap m q y zs w) (hW : W.heap.size ≤ r) (hrq : r < q) (hcr : c < r) (hs : Sets r q w w') :
    Mid B w0 W c a len cap m q y zs w' := by
  induction hs with
  | refl => exact h
  | set _ b o hb v ih =>
    obtain ⟨h1, h2, h3, h4⟩ := ih
    have hz : ∀ X : World, (X.setCell ⟨b, o, none⟩ v).heap.size = X.heap.size := fun X => by simp [World.setCell]
    exact ⟨by rw [hz]; exact h1, h2.setCell (by show b < q + 1; omega) v, h3.other (by omega) v, h4.set (by omega) o v⟩

/-- What 'part' leaves. -/
def PartPost (B : Nat) (w0 W : World) (c : Nat) (a : Option Addr) (len cap m : Nat) (e : Ending) (W' : World) : Prop :=
  ∃ k t zs y, e = .returned (partV k t y) ∧ t.size ≤ 20 ∧ zs.length ≤ 7 ∧ Own W' W.heap.size y zs ∧ Cur B w0 W' c a len cap m ∧ Only c W W'
theorem PartPost.mk {B : Nat} {w0 W : World} {c : Nat} {a : Option Addr} {len cap m n r q : Nat} {k : Int} {t : ByteArray} {zs : List Int} {y : Value} {w W' : World} (h : Mid B w0 W c a len cap m q y zs w)
    (hW : W.heap.size ≤ r) (hrq : r < q) (hcr : c < r) (ht : t.size ≤ 20) (hz : zs.length ≤ 7) (hn : m ≤ n) (hs : Sets r q w W') : PartPost B w0 W c a len cap n (.returned (.agg #[.int .i64 k, .string t, y])) W' := by
  obtain ⟨h1, h2, h3, h4⟩ := h.sets hW hrq hcr hs
  exact ⟨k, t, zs, y, rfl, ht, hz, h2.mono (by omega), h3.mono hn, h4⟩

/-- The two boxes: the answer's own, r, and the part's, q. -/
def Boxes (w : World) (r q : Nat) (k : Int) (t : ByteArray) (y : Value) : Prop :=
  (w.cell? ⟨q, 0, none⟩ = some (.int .i64 k) ∧ w.cell? ⟨q, 1, none⟩ = some (.string t) ∧ w.cell? ⟨q, 2, none⟩ = some y) ∧
  (w.cell? ⟨r, 0, none⟩ = some (.int .i64 0) ∧ w.cell? ⟨r, 1, none⟩ = some (.string ⟨#[]⟩) ∧ w.cell? ⟨r, 2, none⟩ = some (.slice none 0 0)) ∧
  (w.frozen? ⟨q, 0, none⟩ = false ∧ w.frozen? ⟨q, 1, none⟩ = false ∧ w.frozen? ⟨q, 2, none⟩ = false) ∧
  (w.frozen? ⟨r, 0, none⟩ = false ∧ w.frozen? ⟨r, 1, none⟩ = false ∧ w.frozen? ⟨r, 2, none⟩ = false)
theorem frozen_block {w w' : World} {b : Nat} (o : Nat) (h : w'.heap[b]? = w.heap[b]?) : w'.frozen? ⟨b, o, none⟩ = w.frozen? ⟨b, o, none⟩ := by
  unfold World.frozen?
  rw [h]
theorem Boxes.only {w w' : World} {r q c : Nat} {k : Int} {t : ByteArray} {y : Value} (h : Boxes w r q k t y) (ho : Only c w w') (hr : r < w.heap.size) (hq : q < w.heap.size) (hcr : c ≠ r) (hcq : c ≠ q) : Boxes w' r q k t y := by
  have er := ho.2 r hr (Ne.symm hcr)
  have eq := ho.2 q hq (Ne.symm hcq)
  have cr : ∀ o, w'.cell? ⟨r, o, none⟩ = w.cell? ⟨r, o, none⟩ := fun o => World.cell?_of_block (w := w) (a := ⟨r, o, none⟩) er
  have cq : ∀ o, w'.cell? ⟨q, o, none⟩ = w.cell? ⟨q, o, none⟩ := fun o => World.cell?_of_block (w := w) (a := ⟨q, o, none⟩) eq
  unfold Boxes
  rw [cr 0, cr 1, cr 2, cq 0, cq 1, cq 2, frozen_block 0 er, frozen_block 1 er, frozen_block 2 er, frozen_block 0 eq, frozen_block 1 eq, frozen_block 2 eq]
  exact h
theorem Boxes.text {w : World} {r q : Nat} {k : Int} {t : ByteArray} {y : Value} (h : Boxes w r q k t y) (hrq : r ≠ q) (t' : ByteArray) : Boxes (w.setCell ⟨q, 1, none⟩ (.string t')) r q k t' y := by
  have e : ∀ o, (⟨q, 1, none⟩ : Addr) ≠ ⟨r, o, none⟩ := fun o he => hrq (congrArg Addr.block he).symm
  obtain ⟨⟨h0, h1, h2⟩, ⟨h3, h4, h5⟩, hf⟩ := h
  refine ⟨⟨?_, ?_, ?_⟩, ⟨?_, ?_, ?_⟩, ?_⟩
  · rw [World.cell?_setCell_other _ _ _ _ (by simp)]; exact h0
  · rw [World.cell?_setCell_same _ _ _ h1]
  · rw [World.cell?_setCell_other _ _ _ _ (by simp)]; exact h2
  · rw [World.cell?_setCell_other _ _ _ _ (e 0)]; exact h3
  · rw [World.cell?_setCell_other _ _ _ _ (e 1)]; exact h4
  · rw [World.cell?_setCell_other _ _ _ _ (e 2)]; exact h5
  · simp only [World.frozen?_setCell]; exact hf
theorem Boxes.nums {w : World} {r q : Nat} {k : Int} {t : ByteArray} {y : Value} (h : Boxes w r q k t y) (hrq : r ≠ q) (y' : Value) : Boxes (w.setCell ⟨q, 2, none⟩ y') r q k t y' := by
  have e : ∀ o, (⟨q, 2, none⟩ : Addr) ≠ ⟨r, o, none⟩ := fun o he => hrq (congrArg Addr.block he).symm
  obtain ⟨⟨h0, h1, h2⟩, ⟨h3, h4, h5⟩, hf⟩ := h
  refine ⟨⟨?_, ?_, ?_⟩, ⟨?_, ?_, ?_⟩, ?_⟩
  · rw [World.cell?_setCell_other _ _ _ _ (by simp)]; exact h0
  · rw [World.cell?_setCell_other _ _ _ _ (by simp)]; exact h1
  · rw [World.cell?_setCell_same _ _ _ h2]
  · rw [World.cell?_setCell_other _ _ _ _ (e 0)]; exact h3
  · rw [World.cell?_setCell_other _ _ _ _ (e 1)]; exact h4
  · rw [World.cell?_setCell_other _ _ _ _ (e 2)]; exact h5
  · simp only [World.frozen?_setCell]; exact hf

theorem boxes_new (W W1 : World) (c : Nat) (k : Int) (ho : Only c (W.alloc (.cells #[.int .i64 0, .string ⟨#[]⟩, .slice none 0 0] 74)) W1) (hc : c < W.heap.size) :
    Boxes (W1.alloc (.cells #[.int .i64 k, .string ⟨#[]⟩, .slice none 0 0] 74)) W.heap.size W1.heap.size k ⟨#[]⟩ (.slice none 0 0) := by
  have e1 : (W1.alloc (.cells #[.int .i64 k, .string ⟨#[]⟩, .slice none 0 0] 74)).heap[W1.heap.size]? = some (.cells #[.int .i64 k, .string ⟨#[]⟩, .slice none 0 0] 74) := by
    show (W1.heap.push _)[W1.heap.size]? = _
    simp
  have hs : W.heap.size < W1.heap.size := by have := ho.1; simp at this; omega
  have e0 : (W1.alloc (.cells #[.int .i64 k, .string ⟨#[]⟩, .slice none 0 0] 74)).heap[W.heap.size]? = (W.alloc (.cells #[.int .i64 0, .string ⟨#[]⟩, .slice none 0 0] 74)).heap[W.heap.size]? := by
    rw [← ho.2 W.heap.size (by simp) (by omega)]
    exact ((Below.refl _ W1).alloc (Nat.le_refl _) _).block _ hs
  have e2 : (W.alloc (.cells #[.int .i64 0, .string ⟨#[]⟩, .slice none 0 0] 74)).heap[W.heap.size]? = some (.cells #[.int .i64 0, .string ⟨#[]⟩, .slice none 0 0] 74) := by
    show (W.heap.push _)[W.heap.size]? = _
    simp
  have cr : ∀ o, (W1.alloc (.cells #[.int .i64 k, .string ⟨#[]⟩, .slice none 0 0] 74)).cell? ⟨W.heap.size, o, none⟩ = (W.alloc (.cells #[.int .i64 0, .string ⟨#[]⟩, .slice none 0 0] 74)).cell? ⟨W.heap.size, o, none⟩ := fun o => World.cell?_of_block (a := ⟨W.heap.size, o, none⟩) e0
  refine ⟨⟨?_, ?_, ?_⟩, ⟨?_, ?_, ?_⟩, ⟨?_, ?_, ?_⟩, ⟨?_, ?_, ?_⟩⟩
  · rw [World.cell?_alloc_at _ _ _ _ rfl]; rfl
  · rw [World.cell?_alloc_at _ _ _ _ rfl]; rfl
  · rw [World.cell?_alloc_at _ _ _ _ rfl]; rfl
  · rw [cr, World.cell?_alloc_at _ _ _ _ rfl]; rfl
  · rw [cr, World.cell?_alloc_at _ _ _ _ rfl]; rfl
  · rw [cr, World.cell?_alloc_at _ _ _ _ rfl]; rfl
  all_goals (unfold World.frozen?; first | (rw [e1]; simp) | (rw [e0, e2]; simp))

theorem Boxes.belowQ {w w' : World} {r q : Nat} {k : Int} {t : ByteArray} {y : Value} (h : Boxes w r q k t y) (hb : Below (q + 1) w w') (hrq : r < q) : Boxes w' r q k t y := by
  have cr : ∀ o, w'.cell? ⟨r, o, none⟩ = w.cell? ⟨r, o, none⟩ := fun o => hb.cell (p := ⟨r, o, none⟩) (by show r < q + 1; omega)
  have cq : ∀ o, w'.cell? ⟨q, o, none⟩ = w.cell? ⟨q, o, none⟩ := fun o => hb.cell (p := ⟨q, o, none⟩) (by show q < q + 1; omega)
  have fr : ∀ o, w'.frozen? ⟨r, o, none⟩ = w.frozen? ⟨r, o, none⟩ := fun o => hb.frozen (p := ⟨r, o, none⟩) (by show r < q + 1; omega)
  have fq : ∀ o, w'.frozen? ⟨q, o, none⟩ = w.frozen? ⟨q, o, none⟩ := fun o => hb.frozen (p := ⟨q, o, none⟩) (by show q < q + 1; omega)
  unfold Boxes
  rw [cr 0, cr 1, cr 2, cq 0, cq 1, cq 2, fr 0, fr 1, fr 2, fq 0, fq 1, fq 2]
  exact h
theorem Cur.belowQ {B : Nat} {w0 W W1 : World} {c : Nat} {a : Option Addr} {len cap m q : Nat} (h : Cur B w0 W c a len cap m) (hb : Below q W W1) (hq : c < q) (hz : W.heap.size ≤ W1.heap.size) : Cur B w0 W1 c a len cap m := by
  obtain ⟨h1, h2, h3, h4, ⟨n, hn, h5⟩, ⟨sd, h6⟩, h7, h8⟩ := h
  exact ⟨h1, Nat.lt_of_lt_of_le h2 hz, ⟨h3.1.trans (hb.mono (by omega)), Nat.le_trans h3.2 hz⟩, (hb.cell (p := ⟨c, 0, none⟩) hq).trans h4, ⟨n, hn, (hb.cell (p := ⟨c, 1, none⟩) hq).trans h5⟩, ⟨sd, (hb.cell (p := ⟨c, 2, none⟩) hq).trans h6⟩,
    (hb.frozen (p := ⟨c, 1, none⟩) hq).trans h7, (hb.frozen (p := ⟨c, 2, none⟩) hq).trans h8⟩
theorem Only.belowQ {c q : Nat} {w w1 w2 : World} (h : Only c w w1) (hb : Below q w1 w2) (hq : w.heap.size ≤ q) (hz : w1.heap.size ≤ w2.heap.size) : Only c w w2 :=
  ⟨Nat.le_trans h.1 hz, fun k hk hc => (hb.block k (by omega)).trans (h.2 k hk hc)⟩

/-- A call of a Go function, at a step of a region that draws. -/
theorem step_call {ops : Array Oper} {o : Oper} {a : Act} {w : World} {K : Act → World → Prop} {Q : Exit → Act → World → Prop} {E : Prop} (hgd : o.guard = none) (f : FuncId) (vs : Array Value)
    (hrun : (execOp a.eval o).run Try.prog w = .ok (.enter f vs) w) (hc : Calls Try.prog f vs w fun e w' => ∃ v, e = .returned v ∧ K (a.put o.dst v) w') :
    if Region.wanted o (yielded ops a.tmps) = true then Oper.wp Try.prog o a w K Q else E := by
  have hw : Region.wanted o (yielded ops a.tmps) = true := by unfold Region.wanted; rw [hgd]
  rw [if_pos hw]
  unfold Oper.wp
  rw [hrun, Oper.upon_enter]
  refine hc.mono ?_
  rintro e w' ⟨v, rfl, h⟩
  exact h

theorem minus_cells (w : World) : ∀ j (hj : j < [(-1 : Int), 0, 65536].length), (w.alloc (.cells #[.int .i64 (-1), .int .i64 0, .int .i64 65536] 3)).cell? ⟨w.heap.size, j, none⟩ = some (.int .i64 [(-1 : Int), 0, 65536][j]) := by
  intro j hj
  rw [World.cell?_alloc_at _ _ _ _ rfl]
  match j, hj with
  | 0, _ | 1, _ | 2, _ => rfl

theorem four_texts (w : World) (a0 a1 a2 a3 : ByteArray) : ∀ j (hj : j < [a0, a1, a2, a3].length), (w.alloc (.cells #[.string a0, .string a1, .string a2, .string a3] 9)).cell? ⟨w.heap.size, j, none⟩ = some (.string [a0, a1, a2, a3][j]) := by
  intro j hj
  rw [World.cell?_alloc_at _ _ _ _ rfl]
  match j, hj with
  | 0, _ | 1, _ | 2, _ | 3, _ => rfl
theorem three_texts (w : World) (a0 a1 a2 : ByteArray) : ∀ j (hj : j < [a0, a1, a2].length), (w.alloc (.cells #[.string a0, .string a1, .string a2] 9)).cell? ⟨w.heap.size, j, none⟩ = some (.string [a0, a1, a2][j]) := by
  intro j hj
  rw [World.cell?_alloc_at _ _ _ _ rfl]
  match j, hj with
  | 0, _ | 1, _ | 2, _ => rfl
end Go.Proofs.Ytijlhjfllfjllaa
