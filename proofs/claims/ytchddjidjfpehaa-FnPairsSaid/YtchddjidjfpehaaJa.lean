/-
  What holds as 'afterStep' goes on: the pair that came in, the step, the answer's box, and the copy that is being changed.
-/

/-
  'afterStep' of the program, a step's kind at a time.
-/

/-
  'afterStep' of the program, a step's kind at a time.
-/

/-
  'afterStep' of the program, a step's kind at a time.
-/
import Derived.Test.YtchddjidjfpehaaHear
import Derived.Test.YtchddjidjfpehaaJl
import Derived.Test.YtchddjidjfpehaaSidesB
namespace Go.Proofs.Ytchddjidjfpehaa
open Go.RowKit

structure Aft (W : World) (b : Nat) (x y z x' y' z' : Value) (kind k : Int) (q : PR) (w : World) : Prop where
  px : Bx3 w W.heap.size x y z
  sx : Bx2 w (W.heap.size + 1) (.int .i64 kind) (.int .i64 k)
  rx : Bx3 w (W.heap.size + 1 + 1) (.slice none 0 0) (.slice none 0 0) (.slice none 0 0)
  nx : Bx3 w b x' y' z'
  own : Own3 w (W.heap.size + 1 + 1 + 1) x' y' z' q
  sep : ¬ Has x' y' z' b
  lt : W.heap.size + 1 + 1 + 1 ≤ b
  below : Below W.heap.size W w
theorem Aft.step {W : World} {b : Nat} {x y z x' y' z' : Value} {kind k : Int} {q : PR} {w w' : World} (h : Aft W b x y z x' y' z' kind k q w) (hb : Below w.heap.size w w') : Aft W b x y z x' y' z' kind k q w' :=
  ⟨h.px.below hb, h.sx.below hb, h.rx.below hb, h.nx.below hb, h.own.below hb, h.sep, h.lt, h.below.trans (hb.mono h.below.size)⟩
theorem Aft.drew {W : World} {b : Nat} {x y z x' y' z' : Value} {kind k : Int} {q : PR} {w : World} (h : Aft W b x y z x' y' z' kind k q w) : Aft W b x y z x' y' z' kind k q w.drew := h.step ((Below.refl _ w).drew)
theorem Aft.lt2 {W : World} {b : Nat} {x y z x' y' z' : Value} {kind k : Int} {q : PR} {w : World} (h : Aft W b x y z x' y' z' kind k q w) : W.heap.size + 1 + 1 + 1 ≤ w.heap.size := Nat.le_trans h.lt (Nat.le_of_lt h.nx.lt)

/-- The copy is laid, and its box. -/
theorem Aft.start {W w1 : World} {x y z x' y' z' : Value} {kind k : Int} {p : PR}
    (hb : Below (W.heap.size + 1 + 1 + 1) (((W.alloc (.cells #[x, y, z] 40)).alloc (.cells #[.int .i64 kind, .int .i64 k] 53)).alloc (.cells #[.slice none 0 0, .slice none 0 0, .slice none 0 0] 40)) w1)
    (ho : Own3 w1 (W.heap.size + 1 + 1 + 1) x' y' z' p) : Aft W w1.heap.size x y z x' y' z' kind k p (w1.alloc (.cells #[x', y', z'] 40)) := by
  have e0 : (W.alloc (.cells #[x, y, z] 40)).heap.size = W.heap.size + 1 := by simp
  have e1 : ((W.alloc (.cells #[x, y, z] 40)).alloc (.cells #[.int .i64 kind, .int .i64 k] 53)).heap.size = W.heap.size + 1 + 1 := by simp
  have e2 : (((W.alloc (.cells #[x, y, z] 40)).alloc (.cells #[.int .i64 kind, .int .i64 k] 53)).alloc (.cells #[.slice none 0 0, .slice none 0 0, .slice none 0 0] 40)).heap.size = W.heap.size + 1 + 1 + 1 := by simp
  have hb' := hb
  rw [← e2] at hb'
  have hbn : Below w1.heap.size w1 (w1.alloc (.cells #[x', y', z'] 40)) := (Below.refl _ w1).alloc (Nat.le_refl _) _
  have hz : W.heap.size + 1 + 1 + 1 ≤ w1.heap.size := by rw [← e2]; exact hb'.size
  refine ⟨?_, ?_, ?_, Bx3.new _ _ _ _ _, ho.below hbn, fun hh => ?_, hz, ?_⟩
  · exact ((((Bx3.new W x y z 40).below ((Below.refl _ _).alloc (Nat.le_refl _) _)).below ((Below.refl _ _).alloc (Nat.le_refl _) _)).below hb').below hbn
  · have := (((Bx2.new (W.alloc (.cells #[x, y, z] 40)) (.int .i64 kind) (.int .i64 k) 53).below ((Below.refl _ _).alloc (Nat.le_refl _) _)).below hb').below hbn
    rw [e0] at this
    exact this
  · have := ((Bx3.new ((W.alloc (.cells #[x, y, z] 40)).alloc (.cells #[.int .i64 kind, .int .i64 k] 53)) (.slice none 0 0) (.slice none 0 0) (.slice none 0 0) 40).below hb').below hbn
    rw [e1] at this
    exact this
  · have := (ho.lt _ hh).2
    omega
  · exact ((((Below.refl _ W).alloc (Nat.le_refl _) _).alloc (by simp) _).alloc (by simp; omega) _).trans ((hb.mono (by omega)).trans (hbn.mono (by omega)))

theorem setCell_size (w : World) (a : Addr) (u : Value) : (w.setCell a u).heap.size = w.heap.size := by simp [World.setCell]

/-- The line is set anew. -/
theorem Aft.line {W : World} {b : Nat} {x y z x' y' z' : Value} {kind k : Int} {q : PR} {w : World} (h : Aft W b x y z x' y' z' kind k q w) {w' : World} {v' : Value} {ln' : List HD}
    (hz : w.heap.size ≤ w'.heap.size) (hk : ∀ j, j < w.heap.size → z'.ownBlock ≠ some j → w'.heap[j]? = w.heap[j]?) (hb : Below (W.heap.size + 1 + 1 + 1) w w') (ho : OwnH w' (W.heap.size + 1 + 1 + 1) v' ln')
    (hv : v'.ownBlock = z'.ownBlock ∨ ∀ j, v'.ownBlock = some j → w.heap.size ≤ j) : Aft W b x y z x' y' v' kind k ⟨q.st, q.lf, ln'⟩ (w'.setCell ⟨b, 2, none⟩ v') := by
  have hzb : ∀ j, z'.ownBlock = some j → W.heap.size + 1 + 1 + 1 ≤ j := fun j hj => (World.ownsRow.lt h.own.ln j hj).1
  have hlow : ∀ j, j < W.heap.size + 1 + 1 + 1 → (w'.setCell ⟨b, 2, none⟩ v').heap[j]? = w.heap[j]? := fun j hj => by
    have hl := h.lt
    rw [Below.heap_setCell _ _ _ _ (by show j ≠ b; omega)]
    exact hk j (by have := h.lt2; omega) (fun e => by have := hzb j e; omega)
  have hs : w.heap.size ≤ (w'.setCell ⟨b, 2, none⟩ v').heap.size := by rw [setCell_size]; exact hz
  have hsb : ∀ j, Has x' y' z' j → j ≠ b := fun j hj e => h.sep (e ▸ hj)
  have hvb : v'.ownBlock ≠ some b := by
    intro e
    rcases hv with e' | e'
    · exact h.sep (.inr (.inr (e'.symm.trans e)))
    · have := e' b e
      have := h.nx.lt
      omega
  refine ⟨h.px.same (hlow _ (by omega)) hs, h.sx.same (hlow _ (by omega)) hs, h.rx.same (hlow _ (by omega)) hs, ?_, ?_, ?_, h.lt, ?_⟩
  · have : Bx3 w' b x' y' z' := h.nx.same (hk b h.nx.lt (fun e => h.sep (.inr (.inr e)))) hz
    exact this.put2 _
  · have stOwn : Own w' (W.heap.size + 1 + 1 + 1) x' q.st := row_same h.own.st fun j hj => hk j (World.ownsRow.lt h.own.st j hj).2 (fun e => hello_apart h.own.ln h.own.st j e hj)
    have lfOwn : Own w' (W.heap.size + 1 + 1 + 1) y' q.lf := row_same h.own.lf fun j hj => hk j (World.ownsRow.lt h.own.lf j hj).2 (fun e => hello_apart h.own.ln h.own.lf j e hj)
    refine ⟨row_same stOwn fun j hj => ?_, row_same lfOwn fun j hj => ?_, row_same ho fun j hj => ?_, h.own.apart⟩
    · exact Below.heap_setCell _ _ _ _ (hsb j (.inl hj))
    · exact Below.heap_setCell _ _ _ _ (hsb j (.inr (.inl hj)))
    · exact Below.heap_setCell _ _ _ _ (fun e => hvb (hj.trans (congrArg some e)))
  · rintro (e | e | e)
    · exact h.sep (.inl e)
    · exact h.sep (.inr (.inl e))
    · exact hvb e
  · have hl := h.lt
    exact (h.below.trans (hb.mono (by omega))).setCell (by show W.heap.size ≤ b; omega) _

/-- One hello, laid into a block of its own, as what is appended. -/
theorem one_hello (w : World) (q : HD) : Source (w.alloc (.cells #[.int .i64 q.f, .bool q.h] 61)) (.slice (some ⟨w.heap.size, 0, none⟩) 1 1) [q].length (cellsH [q]) := by
  refine .inr ⟨_, _, rfl, fun j u hu => ?_⟩
  rw [add_at, Nat.zero_add, World.cell?_alloc_at _ _ _ _ rfl]
  simpa [cellsH] using hu
/-- One hello more on the line. -/
theorem say_line {W : World} {b : Nat} {x y z x' y' z' : Value} {kind k : Int} {q : PR} {w : World} (h : Aft W b x y z x' y' z' kind k q w) {w' : World} {v' : Value} {ln' : List HD} (hg : GrewH w (W.heap.size + 1 + 1 + 1) z' ln' v' w') :
    Aft W b x y z x' y' v' kind k ⟨q.st, q.lf, ln'⟩ (w'.setCell ⟨b, 2, none⟩ v') :=
  h.line hg.size (fun j hj hn => hg.grown.block j hj (fun e => hn e.symm)) hg.below hg.own (hg.lies.imp id fun e j hj => by rw [e] at hj; simp at hj; omega)
theorem say_box {W : World} {b : Nat} {x y z x' y' z' : Value} {kind k : Int} {q : PR} {w : World} (h : Aft W b x y z x' y' z' kind k q w) {w' : World} {v' : Value} {ln' : List HD} (hg : GrewH w (W.heap.size + 1 + 1 + 1) z' ln' v' w') : Bx3 w' b x' y' z' :=
  h.nx.same (hg.grown.block b h.nx.lt (fun e => h.sep (.inr (.inr e.symm)))) hg.size

/-- Sides are set anew. -/
theorem Aft.wrote {W : World} {b : Nat} {x y z x' y' z' : Value} {kind k : Int} {q q' : PR} {w w' : World} (h : Aft W b x y z x' y' z' kind k q w) (hw : Wrote w w' (W.heap.size + 1 + 1 + 1) x' y')
    (ho : Own3 w' (W.heap.size + 1 + 1 + 1) x' y' z' q') : Aft W b x y z x' y' z' kind k q' w' := by
  have hlow : ∀ j, j < W.heap.size + 1 + 1 + 1 → w'.heap[j]? = w.heap[j]? := fun j hj =>
    hw.block j (by have := h.lt2; omega) (fun e => by have := (h.own.lt j (.inl e)).1; omega) (fun e => by have := (h.own.lt j (.inr (.inl e))).1; omega)
  exact ⟨h.px.same (hlow _ (by omega)) hw.size, h.sx.same (hlow _ (by omega)) hw.size, h.rx.same (hlow _ (by omega)) hw.size, h.nx.same (hw.block b h.nx.lt (fun e => h.sep (.inl e)) (fun e => h.sep (.inr (.inl e)))) hw.size, ho, h.sep, h.lt, h.below.trans (hw.below.mono (by omega))⟩

/-- The end: the copy goes into the answer's box. -/
theorem Aft.fin {W : World} {b : Nat} {x y z x' y' z' : Value} {kind k : Int} {q : PR} {w : World} (h : Aft W b x y z x' y' z' kind k q w) :
    Own3 (((w.setCell ⟨W.heap.size + 1 + 1, 0, none⟩ x').setCell ⟨W.heap.size + 1 + 1, 1, none⟩ y').setCell ⟨W.heap.size + 1 + 1, 2, none⟩ z') W.heap.size x' y' z' q ∧
    Below W.heap.size W (((w.setCell ⟨W.heap.size + 1 + 1, 0, none⟩ x').setCell ⟨W.heap.size + 1 + 1, 1, none⟩ y').setCell ⟨W.heap.size + 1 + 1, 2, none⟩ z') :=
  ⟨(((h.own.setCell (by simp) _).setCell (by simp) _).setCell (by simp) _).mono (by omega), ((h.below.setCell (by simp; omega) _).setCell (by simp; omega) _).setCell (by simp; omega) _⟩
end Go.Proofs.Ytchddjidjfpehaa

namespace Go.Proofs.Ytchddjidjfpehaa
open Go.RowKit

set_option maxRecDepth 100000 in
set_option maxHeartbeats 4000000 in
theorem after_lose (W : World) (B : Nat) (x y z : Value) (s0 s1 l0 l1 : Int) (ln : List HD) (k : Nat) (h : Own3 W B x y z ⟨[s0, s1], [l0, l1], ln⟩) (hl : ln.length ≤ 12) (hk : k < ln.length) :
    Calls Try.prog 62 #[.agg #[x, y, z], .agg #[.int .i64 3, .int .i64 (k : Int)]] W fun e W' => ∃ x' y' z', e = .returned (.agg #[x', y', z']) ∧ Own3 W' W.heap.size x' y' z' ⟨[s0, s1], [l0, l1], ln.eraseIdx k⟩ ∧ Below W.heap.size W W' := by
  obtain ⟨a1, c1, rfl⟩ := h.st.shape
  obtain ⟨a2, c2, rfl⟩ := h.lf.shape
  obtain ⟨a3, c3, rfl⟩ := h.ln.shape
  simp only [List.length_cons, List.length_nil, Nat.zero_add, Nat.reduceAdd] at *
  have HR : Hid (∀ W1, Below W.heap.size W W1 → Own3 W1 B (.slice a1 2 c1) (.slice a2 2 c2) (.slice a3 ln.length c3) ⟨[s0, s1], [l0, l1], ln⟩) := fun W1 hb => h.below hb
  have HB3 : Hid (Below W.heap.size W (((W.alloc (.cells #[.slice a1 2 c1, .slice a2 2 c2, .slice a3 ln.length c3] 40)).alloc (.cells #[.int .i64 3, .int .i64 (k : Int)] 53)).alloc (.cells #[.slice none 0 0, .slice none 0 0, .slice none 0 0] 40))) := (((Below.refl _ W).alloc (Nat.le_refl _) _).alloc (by simp) _).alloc (by simp; omega) _
  have HL : Hid (ln.length ≤ 1048576) := Nat.le_trans hl (by decide)
  clear h
  go_enter Try.func62, Try.ntmps62
  go_wp2_with fail
  refine (copyPair_any _ B _ _ _ ⟨[s0, s1], [l0, l1], ln⟩ (HR.out _ HB3.out) (by simp) (by simp) HL.out).mono ?_
  rintro e w1 ⟨x', y', z', rfl, ho, hb⟩
  obtain ⟨b1, d1, rfl⟩ := ho.st.shape
  obtain ⟨b2, d2, rfl⟩ := ho.lf.shape
  obtain ⟨b3, d3, rfl⟩ := ho.ln.shape
  simp only [List.length_cons, List.length_nil, Nat.zero_add, Nat.reduceAdd] at *
  have HA : Hid (Aft W w1.heap.size (.slice a1 2 c1) (.slice a2 2 c2) (.slice a3 ln.length c3) (.slice b1 2 d1) (.slice b2 2 d2) (.slice b3 ln.length d3) 3 (k : Int) ⟨[s0, s1], [l0, l1], ln⟩ (w1.alloc (.cells #[.slice b1 2 d1, .slice b2 2 d2, .slice b3 ln.length d3] 40))) := by
    refine Aft.start ?_ ?_
    · simpa using hb
    · simpa using ho
  clear ho hb HB3
  obtain ⟨p0, p1, p2, p3, -⟩ := HA.out.px
  obtain ⟨t0, t1, t2, -⟩ := HA.out.sx
  obtain ⟨n0, n1, n2, n3, nf⟩ := HA.out.nx
  go_wp2_with fail
  refine (lineWithout_any _ B _ ln k (HR.out _ HA.out.below).ln hk HL.out).mono ?_
  rintro e w2 ⟨v2, rfl, ho2, hb2⟩
  obtain ⟨b4, d4, rfl⟩ := ho2.shape
  have HF : Hid (Aft W w1.heap.size (.slice a1 2 c1) (.slice a2 2 c2) (.slice a3 ln.length c3) (.slice b1 2 d1) (.slice b2 2 d2) (.slice b4 (ln.eraseIdx k).length d4) 3 (k : Int) ⟨[s0, s1], [l0, l1], ln.eraseIdx k⟩ (w2.setCell ⟨w1.heap.size, 2, none⟩ (.slice b4 (ln.eraseIdx k).length d4))) :=
    HA.out.line hb2.size (fun j hj _ => hb2.block j hj) (hb2.mono HA.out.lt2) (ho2.mono HA.out.lt2) (.inr fun j hj => (World.ownsRow.lt ho2 j hj).1)
  obtain ⟨p0, p1, p2, p3, -⟩ := (HA.out.step hb2).px
  obtain ⟨t0, t1, t2, -⟩ := (HA.out.step hb2).sx
  obtain ⟨n0, n1, n2, n3, nf⟩ := (HA.out.step hb2).nx
  obtain ⟨m0, m1, m2, m3, -⟩ := HF.out.nx
  obtain ⟨r0, r1, r2, r3, rf⟩ := HF.out.rx
  clear ho2 hb2
  go_wp2
  refine bodyPost_ret (v := .agg #[.slice b1 2 d1, .slice b2 2 d2, .slice b4 (ln.eraseIdx k).length d4]) (by simp [results, Try.results62, go_sem, r1, r2, r3]) rfl ⟨_, _, _, rfl, ?_, ?_⟩
  · exact HF.out.fin.1
  · exact HF.out.fin.2

set_option maxRecDepth 100000 in
set_option maxHeartbeats 4000000 in
theorem after_take (W : World) (B : Nat) (x y z : Value) (s0 s1 l0 l1 : Int) (ln : List HD) (k : Nat) (q : HD) (h : Own3 W B x y z ⟨[s0, s1], [l0, l1], ln⟩) (hl : ln.length ≤ 12) (hk : k < ln.length) (hq : ln[k] = q) (hf : q.f = 0 ∨ q.f = 1) (g0 : stateB s0 = true) (g1 : stateB s1 = true) :
    Calls Try.prog 62 #[.agg #[x, y, z], .agg #[.int .i64 2, .int .i64 (k : Int)]] W fun e W' => ∃ x' y' z', e = .returned (.agg #[x', y', z']) ∧ Own3 W' W.heap.size x' y' z' ⟨[s0, s1].set (1 - q.f).toNat (heardS q.h), [l0, l1].set (1 - q.f).toNat 3, ln.eraseIdx k⟩ ∧ Below W.heap.size W W' := by
  obtain ⟨a1, c1, rfl⟩ := h.st.shape
  obtain ⟨a2, c2, rfl⟩ := h.lf.shape
  obtain ⟨a3, c3, rfl, hc3⟩ := h.ln.reads
  obtain ⟨g, off, rfl, hgl, hcell⟩ := hc3.resolve_left (fun e => by have e : ln = [] := e; rw [e] at hk; simp at hk)
  have hq0 := hcell k hk
  rw [hq] at hq0
  clear hcell hc3
  have HQ : Hid (∀ W1, Below W.heap.size W W1 → W1.cell? ⟨g, off + k * 2, none⟩ = some (.int .i64 q.f) ∧ W1.cell? ⟨g, off + k * 2 + 1, none⟩ = some (.bool q.h)) := fun W1 hb => hq0.below hgl hb
  clear hq0
  have i1 : (k : Int) < (ln.length : Int) := by omega
  have i0 : (0 : Int) ≤ (k : Int) := by omega
  simp only [List.length_cons, List.length_nil, Nat.zero_add, Nat.reduceAdd] at *
  have HR : Hid (∀ W1, Below W.heap.size W W1 → Own3 W1 B (.slice a1 2 c1) (.slice a2 2 c2) (.slice (some ⟨g, off, none⟩) ln.length c3) ⟨[s0, s1], [l0, l1], ln⟩) := fun W1 hb => h.below hb
  have HB3 : Hid (Below W.heap.size W (((W.alloc (.cells #[.slice a1 2 c1, .slice a2 2 c2, .slice (some ⟨g, off, none⟩) ln.length c3] 40)).alloc (.cells #[.int .i64 2, .int .i64 (k : Int)] 53)).alloc (.cells #[.slice none 0 0, .slice none 0 0, .slice none 0 0] 40))) := (((Below.refl _ W).alloc (Nat.le_refl _) _).alloc (by simp) _).alloc (by simp; omega) _
  have HL : Hid (ln.length ≤ 1048576) := Nat.le_trans hl (by decide)
  clear h
  go_enter Try.func62, Try.ntmps62
  go_wp2_with fail
  refine (copyPair_any _ B _ _ _ ⟨[s0, s1], [l0, l1], ln⟩ (HR.out _ HB3.out) (by simp) (by simp) HL.out).mono ?_
  rintro e w1 ⟨x', y', z', rfl, ho, hb⟩
  obtain ⟨b1, d1, rfl⟩ := ho.st.shape
  obtain ⟨b2, d2, rfl⟩ := ho.lf.shape
  obtain ⟨b3, d3, rfl⟩ := ho.ln.shape
  simp only [List.length_cons, List.length_nil, Nat.zero_add, Nat.reduceAdd] at *
  have HA : Hid (Aft W w1.heap.size (.slice a1 2 c1) (.slice a2 2 c2) (.slice (some ⟨g, off, none⟩) ln.length c3) (.slice b1 2 d1) (.slice b2 2 d2) (.slice b3 ln.length d3) 2 (k : Int) ⟨[s0, s1], [l0, l1], ln⟩ (w1.alloc (.cells #[.slice b1 2 d1, .slice b2 2 d2, .slice b3 ln.length d3] 40))) := by
    refine Aft.start ?_ ?_
    · simpa using hb
    · simpa using ho
  clear ho hb HB3
  have HAd : Aft W w1.heap.size (.slice a1 2 c1) (.slice a2 2 c2) (.slice (some ⟨g, off, none⟩) ln.length c3) (.slice b1 2 d1) (.slice b2 2 d2) (.slice b3 ln.length d3) 2 (k : Int) ⟨[s0, s1], [l0, l1], ln⟩ (w1.alloc (.cells #[.slice b1 2 d1, .slice b2 2 d2, .slice b3 ln.length d3] 40)).drew := HA.out.drew
  obtain ⟨p0, p1, p2, p3, -⟩ := HA.out.px
  obtain ⟨t0, t1, t2, -⟩ := HA.out.sx
  obtain ⟨n0, n1, n2, n3, nf⟩ := HA.out.nx
  go_wp2
  go_region_held3 (fun w' => w'.cell? ⟨w1.heap.size, 0, none⟩ = some (.slice b1 2 d1) ∧ w'.cell? ⟨w1.heap.size, 1, none⟩ = some (.slice b2 2 d2) ∧ w'.cell? ⟨w1.heap.size, 2, none⟩ = some (.slice b3 ln.length d3) ∧ w'.cell? ⟨W.heap.size, 2, none⟩ = some (.slice (some ⟨g, off, none⟩) ln.length c3) ∧ w'.cell? ⟨W.heap.size + 1, 1, none⟩ = some (.int .i64 (k : Int)) ∧ w'.cell? ⟨g, off + k * 2, none⟩ = some (.int .i64 q.f) ∧ w'.cell? ⟨g, off + k * 2 + 1, none⟩ = some (.bool q.h))
    (first | exact ⟨HAh.nx.c0, HAh.nx.c1, HAh.nx.c2, HAh.px.c2, HAh.sx.c1, (HQ.out _ HAh.below).1, (HQ.out _ HAh.below).2⟩ | exact ⟨HAd.nx.c0, HAd.nx.c1, HAd.nx.c2, HAd.px.c2, HAd.sx.c1, (HQ.out _ HAd.below).1, (HQ.out _ HAd.below).2⟩)
    (first
      | (refine step_call (by rfl) 86 #[.agg #[.slice b1 2 d1, .slice b2 2 d2, .slice b3 ln.length d3], .agg #[.int .i64 q.f, .bool q.h]] (by simp [go_sem]) ((hear_any _ _ _ _ _ s0 s1 l0 l1 ln q HAd.own HAd.lt2 hf g0 g1).mono ?_); rintro e w2 ⟨⟨v, rfl⟩, ho2, hw2⟩; refine ⟨_, rfl, ?_⟩; have HAh := HAd.wrote hw2 ho2; clear ho2 hw2))
  all_goals
    have HA2 : Hid (Aft W w1.heap.size (.slice a1 2 c1) (.slice a2 2 c2) (.slice (some ⟨g, off, none⟩) ln.length c3) (.slice b1 2 d1) (.slice b2 2 d2) (.slice b3 ln.length d3) 2 (k : Int) ⟨[s0, s1].set (1 - q.f).toNat (heardS q.h), [l0, l1].set (1 - q.f).toNat 3, ln⟩ w2) := HAh
    clear p0 p1 p2 p3 t0 t1 t2 n0 n1 n2 n3 nf HAd HAh HA
    obtain ⟨p0, p1, p2, p3, -⟩ := HA2.out.px
    obtain ⟨t0, t1, t2, -⟩ := HA2.out.sx
    obtain ⟨n0, n1, n2, n3, nf⟩ := HA2.out.nx
    go_wp2_with fail
    refine (lineWithout_any _ B _ ln k (HR.out _ HA2.out.below).ln hk HL.out).mono ?_
    rintro e w3 ⟨v3, rfl, ho3, hb3⟩
    obtain ⟨b4, d4, rfl⟩ := ho3.shape
    have HF : Hid (Aft W w1.heap.size (.slice a1 2 c1) (.slice a2 2 c2) (.slice (some ⟨g, off, none⟩) ln.length c3) (.slice b1 2 d1) (.slice b2 2 d2) (.slice b4 (ln.eraseIdx k).length d4) 2 (k : Int) ⟨[s0, s1].set (1 - q.f).toNat (heardS q.h), [l0, l1].set (1 - q.f).toNat 3, ln.eraseIdx k⟩ (w3.setCell ⟨w1.heap.size, 2, none⟩ (.slice b4 (ln.eraseIdx k).length d4))) :=
      HA2.out.line hb3.size (fun j hj _ => hb3.block j hj) (hb3.mono HA2.out.lt2) (ho3.mono HA2.out.lt2) (.inr fun j hj => (World.ownsRow.lt ho3 j hj).1)
    obtain ⟨p0, p1, p2, p3, -⟩ := (HA2.out.step hb3).px
    obtain ⟨t0, t1, t2, -⟩ := (HA2.out.step hb3).sx
    obtain ⟨n0, n1, n2, n3, nf⟩ := (HA2.out.step hb3).nx
    obtain ⟨m0, m1, m2, m3, -⟩ := HF.out.nx
    obtain ⟨r0, r1, r2, r3, rf⟩ := HF.out.rx
    clear ho3 hb3
    go_wp2
    refine bodyPost_ret (v := .agg #[.slice b1 2 d1, .slice b2 2 d2, .slice b4 (ln.eraseIdx k).length d4]) (by simp [results, Try.results62, go_sem, r1, r2, r3]) rfl ⟨_, _, _, rfl, ?_, ?_⟩
    · exact HF.out.fin.1
    · exact HF.out.fin.2

end Go.Proofs.Ytchddjidjfpehaa

namespace Go.Proofs.Ytchddjidjfpehaa
open Go.RowKit


set_option maxRecDepth 100000 in
set_option maxHeartbeats 4000000 in
theorem after_say_0_false (W : World) (B : Nat) (x y z : Value) (s1 l1 : Int) (ln : List HD)  (h : Own3 W B x y z ⟨[0, s1], [0, l1], ln⟩) (hl : ln.length ≤ 12) (hc : ln.length < 12) :
    Calls Try.prog 62 #[.agg #[x, y, z], .agg #[.int .i64 1, .int .i64 0]] W fun e W' => ∃ x' y' z', e = .returned (.agg #[x', y', z']) ∧ Own3 W' W.heap.size x' y' z' ⟨[0, s1], [0, l1], ln ++ [HD.mk 0 false]⟩ ∧ Below W.heap.size W W' := by
  obtain ⟨a1, c1, rfl⟩ := h.st.shape
  obtain ⟨a2, c2, rfl⟩ := h.lf.shape
  obtain ⟨ln', hln'⟩ : ∃ ln', ln' = ln ++ [HD.mk 0 false] := ⟨_, rfl⟩
  rw [← hln']
  have HLN : Hid (ln' = ln ++ [HD.mk 0 false]) := hln'
  clear hln'
  obtain ⟨a3, c3, rfl⟩ := h.ln.shape
  simp only [List.length_cons, List.length_nil, Nat.zero_add, Nat.reduceAdd] at *
  have HR : Hid (∀ W1, Below W.heap.size W W1 → Own3 W1 B (.slice a1 2 c1) (.slice a2 2 c2) (.slice a3 ln.length c3) ⟨[0, s1], [0, l1], ln⟩) := fun W1 hb => h.below hb
  have HB3 : Hid (Below W.heap.size W (((W.alloc (.cells #[.slice a1 2 c1, .slice a2 2 c2, .slice a3 ln.length c3] 40)).alloc (.cells #[.int .i64 1, .int .i64 0] 53)).alloc (.cells #[.slice none 0 0, .slice none 0 0, .slice none 0 0] 40))) := (((Below.refl _ W).alloc (Nat.le_refl _) _).alloc (by simp) _).alloc (by simp; omega) _
  have HL : Hid (ln.length ≤ 1048576) := Nat.le_trans hl (by decide)
  clear h
  go_enter Try.func62, Try.ntmps62
  go_wp2_with fail
  refine (copyPair_any _ B _ _ _ ⟨[0, s1], [0, l1], ln⟩ (HR.out _ HB3.out) (by simp) (by simp) HL.out).mono ?_
  rintro e w1 ⟨x', y', z', rfl, ho, hb⟩
  obtain ⟨b1, d1, rfl⟩ := ho.st.shape
  obtain ⟨b2, d2, rfl⟩ := ho.lf.shape
  obtain ⟨b3, d3, rfl⟩ := ho.ln.shape
  simp only [List.length_cons, List.length_nil, Nat.zero_add, Nat.reduceAdd] at *
  have HA : Hid (Aft W w1.heap.size (.slice a1 2 c1) (.slice a2 2 c2) (.slice a3 ln.length c3) (.slice b1 2 d1) (.slice b2 2 d2) (.slice b3 ln.length d3) 1 0 ⟨[0, s1], [0, l1], ln⟩ (w1.alloc (.cells #[.slice b1 2 d1, .slice b2 2 d2, .slice b3 ln.length d3] 40))) := by
    refine Aft.start ?_ ?_
    · simpa using hb
    · simpa using ho
  clear ho hb HB3
  obtain ⟨p0, p1, p2, p3, -⟩ := HA.out.px
  obtain ⟨t0, t1, t2, -⟩ := HA.out.sx
  obtain ⟨n0, n1, n2, n3, nf⟩ := HA.out.nx
  go_wp2_with fail
  refine (sideOf_any _ _ _ _ ⟨[0, s1], [0, l1], ln⟩ 0 (HR.out _ HA.out.below).reads (by simp) (by simp)).mono ?_
  rintro e w2 ⟨rfl, hb2⟩
  have HA2 : Hid (Aft W w1.heap.size (.slice a1 2 c1) (.slice a2 2 c2) (.slice a3 ln.length c3) (.slice b1 2 d1) (.slice b2 2 d2) (.slice b3 ln.length d3) 1 0 ⟨[0, s1], [0, l1], ln⟩ w2) := HA.out.step hb2
  clear hb2 HA p0 p1 p2 p3 t0 t1 t2 n0 n1 n2 n3 nf
  simp only [List.getElem_cons_zero]
  go_wp2_with fail
  refine (silentSide_any _).mono ?_
  rintro e w3 ⟨rfl, hb3⟩
  have HA3 : Hid (Aft W w1.heap.size (.slice a1 2 c1) (.slice a2 2 c2) (.slice a3 ln.length c3) (.slice b1 2 d1) (.slice b2 2 d2) (.slice b3 ln.length d3) 1 0 ⟨[0, s1], [0, l1], ln⟩ w3) := HA2.out.step hb3
  clear hb3 HA2
  have HN : Hid (Aft W w1.heap.size (.slice a1 2 c1) (.slice a2 2 c2) (.slice a3 ln.length c3) (.slice b1 2 d1) (.slice b2 2 d2) (.slice b3 ln.length d3) 1 0 ⟨[0, s1], [0, l1], ln⟩ (w3.alloc (.cells #[.int .i64 0, .bool false] 61))) := HA3.out.step ((Below.refl _ w3).alloc (Nat.le_refl _) _)
  have HC : Hid (∀ ty, ∃ v' w', (Builtin.append_ #[38, 38] ty #[.slice b3 ln.length d3, .slice (some ⟨w3.heap.size, 0, none⟩) 1 1]).run Try.prog (w3.alloc (.cells #[.int .i64 0, .bool false] 61)) = .ok v' w' ∧ GrewH (w3.alloc (.cells #[.int .i64 0, .bool false] 61)) (W.heap.size + 1 + 1 + 1) (.slice b3 ln.length d3) ln' v' w') := fun ty => by
    rw [HLN.out]
    exact run_catH _ _ _ ln HN.out.own.ln _ [HD.mk 0 false] (one_hello w3 (HD.mk 0 false)) (by simp; omega) HN.out.lt2 ty
  obtain ⟨p0, p1, p2, p3, -⟩ := HA3.out.px
  obtain ⟨t0, t1, t2, -⟩ := HA3.out.sx
  obtain ⟨n0, n1, n2, n3, nf⟩ := HA3.out.nx
  go_wp2_with (at_builtin; refine list_cat (by rfl) (.tmp 27) (.tmp 32) 38 (by rfl) (.slice b3 ln.length d3) (.slice (some ⟨w3.heap.size, 0, none⟩) 1 1) (by rfl) (by rfl) _ HC.out ?_; intro v4 w4 hg4; obtain ⟨b4, d4, rfl⟩ := hg4.own.shape; have HF : Hid (Aft W w1.heap.size (.slice a1 2 c1) (.slice a2 2 c2) (.slice a3 ln.length c3) (.slice b1 2 d1) (.slice b2 2 d2) (.slice b4 ln'.length d4) 1 0 ⟨[0, s1], [0, l1], ln'⟩ (w4.setCell ⟨w1.heap.size, 2, none⟩ (.slice b4 ln'.length d4))) := say_line HN.out hg4; obtain ⟨u0, u1, u2, u3, uf⟩ := say_box HN.out hg4; obtain ⟨m0, m1, m2, m3, -⟩ := HF.out.nx; obtain ⟨r0, r1, r2, r3, rf⟩ := HF.out.rx; clear hg4)
  refine bodyPost_ret (v := .agg #[.slice b1 2 d1, .slice b2 2 d2, .slice b4 ln'.length d4]) (by simp [results, Try.results62, go_sem, r1, r2, r3]) rfl ⟨_, _, _, rfl, ?_, ?_⟩
  · exact HF.out.fin.1
  · exact HF.out.fin.2

set_option maxRecDepth 100000 in
set_option maxHeartbeats 4000000 in
theorem after_say_0_true (W : World) (B : Nat) (x y z : Value) (s0 s1 l0 l1 : Int) (ln : List HD)  (h : Own3 W B x y z ⟨[s0, s1], [l0, l1], ln⟩) (hl : ln.length ≤ 12) (hc : ln.length < 12) (hs : ¬ s0 = 0) :
    Calls Try.prog 62 #[.agg #[x, y, z], .agg #[.int .i64 1, .int .i64 0]] W fun e W' => ∃ x' y' z', e = .returned (.agg #[x', y', z']) ∧ Own3 W' W.heap.size x' y' z' ⟨[s0, s1], [l0, l1], ln ++ [HD.mk 0 true]⟩ ∧ Below W.heap.size W W' := by
  obtain ⟨a1, c1, rfl⟩ := h.st.shape
  obtain ⟨a2, c2, rfl⟩ := h.lf.shape
  obtain ⟨ln', hln'⟩ : ∃ ln', ln' = ln ++ [HD.mk 0 true] := ⟨_, rfl⟩
  rw [← hln']
  have HLN : Hid (ln' = ln ++ [HD.mk 0 true]) := hln'
  clear hln'
  obtain ⟨a3, c3, rfl⟩ := h.ln.shape
  simp only [List.length_cons, List.length_nil, Nat.zero_add, Nat.reduceAdd] at *
  have HR : Hid (∀ W1, Below W.heap.size W W1 → Own3 W1 B (.slice a1 2 c1) (.slice a2 2 c2) (.slice a3 ln.length c3) ⟨[s0, s1], [l0, l1], ln⟩) := fun W1 hb => h.below hb
  have HB3 : Hid (Below W.heap.size W (((W.alloc (.cells #[.slice a1 2 c1, .slice a2 2 c2, .slice a3 ln.length c3] 40)).alloc (.cells #[.int .i64 1, .int .i64 0] 53)).alloc (.cells #[.slice none 0 0, .slice none 0 0, .slice none 0 0] 40))) := (((Below.refl _ W).alloc (Nat.le_refl _) _).alloc (by simp) _).alloc (by simp; omega) _
  have HL : Hid (ln.length ≤ 1048576) := Nat.le_trans hl (by decide)
  clear h
  go_enter Try.func62, Try.ntmps62
  go_wp2_with fail
  refine (copyPair_any _ B _ _ _ ⟨[s0, s1], [l0, l1], ln⟩ (HR.out _ HB3.out) (by simp) (by simp) HL.out).mono ?_
  rintro e w1 ⟨x', y', z', rfl, ho, hb⟩
  obtain ⟨b1, d1, rfl⟩ := ho.st.shape
  obtain ⟨b2, d2, rfl⟩ := ho.lf.shape
  obtain ⟨b3, d3, rfl⟩ := ho.ln.shape
  simp only [List.length_cons, List.length_nil, Nat.zero_add, Nat.reduceAdd] at *
  have HA : Hid (Aft W w1.heap.size (.slice a1 2 c1) (.slice a2 2 c2) (.slice a3 ln.length c3) (.slice b1 2 d1) (.slice b2 2 d2) (.slice b3 ln.length d3) 1 0 ⟨[s0, s1], [l0, l1], ln⟩ (w1.alloc (.cells #[.slice b1 2 d1, .slice b2 2 d2, .slice b3 ln.length d3] 40))) := by
    refine Aft.start ?_ ?_
    · simpa using hb
    · simpa using ho
  clear ho hb HB3
  obtain ⟨p0, p1, p2, p3, -⟩ := HA.out.px
  obtain ⟨t0, t1, t2, -⟩ := HA.out.sx
  obtain ⟨n0, n1, n2, n3, nf⟩ := HA.out.nx
  go_wp2_with fail
  refine (sideOf_any _ _ _ _ ⟨[s0, s1], [l0, l1], ln⟩ 0 (HR.out _ HA.out.below).reads (by simp) (by simp)).mono ?_
  rintro e w2 ⟨rfl, hb2⟩
  have HA2 : Hid (Aft W w1.heap.size (.slice a1 2 c1) (.slice a2 2 c2) (.slice a3 ln.length c3) (.slice b1 2 d1) (.slice b2 2 d2) (.slice b3 ln.length d3) 1 0 ⟨[s0, s1], [l0, l1], ln⟩ w2) := HA.out.step hb2
  clear hb2 HA p0 p1 p2 p3 t0 t1 t2 n0 n1 n2 n3 nf
  simp only [List.getElem_cons_zero]
  go_wp2_with fail
  refine (silentSide_any _).mono ?_
  rintro e w3 ⟨rfl, hb3⟩
  have HA3 : Hid (Aft W w1.heap.size (.slice a1 2 c1) (.slice a2 2 c2) (.slice a3 ln.length c3) (.slice b1 2 d1) (.slice b2 2 d2) (.slice b3 ln.length d3) 1 0 ⟨[s0, s1], [l0, l1], ln⟩ w3) := HA2.out.step hb3
  clear hb3 HA2
  have HN : Hid (Aft W w1.heap.size (.slice a1 2 c1) (.slice a2 2 c2) (.slice a3 ln.length c3) (.slice b1 2 d1) (.slice b2 2 d2) (.slice b3 ln.length d3) 1 0 ⟨[s0, s1], [l0, l1], ln⟩ (w3.alloc (.cells #[.int .i64 0, .bool true] 61))) := HA3.out.step ((Below.refl _ w3).alloc (Nat.le_refl _) _)
  have HC : Hid (∀ ty, ∃ v' w', (Builtin.append_ #[38, 38] ty #[.slice b3 ln.length d3, .slice (some ⟨w3.heap.size, 0, none⟩) 1 1]).run Try.prog (w3.alloc (.cells #[.int .i64 0, .bool true] 61)) = .ok v' w' ∧ GrewH (w3.alloc (.cells #[.int .i64 0, .bool true] 61)) (W.heap.size + 1 + 1 + 1) (.slice b3 ln.length d3) ln' v' w') := fun ty => by
    rw [HLN.out]
    exact run_catH _ _ _ ln HN.out.own.ln _ [HD.mk 0 true] (one_hello w3 (HD.mk 0 true)) (by simp; omega) HN.out.lt2 ty
  obtain ⟨p0, p1, p2, p3, -⟩ := HA3.out.px
  obtain ⟨t0, t1, t2, -⟩ := HA3.out.sx
  obtain ⟨n0, n1, n2, n3, nf⟩ := HA3.out.nx
  go_wp2_with (at_builtin; refine list_cat (by rfl) (.tmp 27) (.tmp 32) 38 (by rfl) (.slice b3 ln.length d3) (.slice (some ⟨w3.heap.size, 0, none⟩) 1 1) (by rfl) (by rfl) _ HC.out ?_; intro v4 w4 hg4; obtain ⟨b4, d4, rfl⟩ := hg4.own.shape; have HF : Hid (Aft W w1.heap.size (.slice a1 2 c1) (.slice a2 2 c2) (.slice a3 ln.length c3) (.slice b1 2 d1) (.slice b2 2 d2) (.slice b4 ln'.length d4) 1 0 ⟨[s0, s1], [l0, l1], ln'⟩ (w4.setCell ⟨w1.heap.size, 2, none⟩ (.slice b4 ln'.length d4))) := say_line HN.out hg4; obtain ⟨u0, u1, u2, u3, uf⟩ := say_box HN.out hg4; obtain ⟨m0, m1, m2, m3, -⟩ := HF.out.nx; obtain ⟨r0, r1, r2, r3, rf⟩ := HF.out.rx; clear hg4)
  refine bodyPost_ret (v := .agg #[.slice b1 2 d1, .slice b2 2 d2, .slice b4 ln'.length d4]) (by simp [results, Try.results62, go_sem, r1, r2, r3]) rfl ⟨_, _, _, rfl, ?_, ?_⟩
  · exact HF.out.fin.1
  · exact HF.out.fin.2

set_option maxRecDepth 100000 in
set_option maxHeartbeats 4000000 in
theorem after_say_1_false (W : World) (B : Nat) (x y z : Value) (s0 l0 : Int) (ln : List HD)  (h : Own3 W B x y z ⟨[s0, 0], [l0, 0], ln⟩) (hl : ln.length ≤ 12) (hc : ln.length < 12) :
    Calls Try.prog 62 #[.agg #[x, y, z], .agg #[.int .i64 1, .int .i64 1]] W fun e W' => ∃ x' y' z', e = .returned (.agg #[x', y', z']) ∧ Own3 W' W.heap.size x' y' z' ⟨[s0, 0], [l0, 0], ln ++ [HD.mk 1 false]⟩ ∧ Below W.heap.size W W' := by
  obtain ⟨a1, c1, rfl⟩ := h.st.shape
  obtain ⟨a2, c2, rfl⟩ := h.lf.shape
  obtain ⟨ln', hln'⟩ : ∃ ln', ln' = ln ++ [HD.mk 1 false] := ⟨_, rfl⟩
  rw [← hln']
  have HLN : Hid (ln' = ln ++ [HD.mk 1 false]) := hln'
  clear hln'
  obtain ⟨a3, c3, rfl⟩ := h.ln.shape
  simp only [List.length_cons, List.length_nil, Nat.zero_add, Nat.reduceAdd] at *
  have HR : Hid (∀ W1, Below W.heap.size W W1 → Own3 W1 B (.slice a1 2 c1) (.slice a2 2 c2) (.slice a3 ln.length c3) ⟨[s0, 0], [l0, 0], ln⟩) := fun W1 hb => h.below hb
  have HB3 : Hid (Below W.heap.size W (((W.alloc (.cells #[.slice a1 2 c1, .slice a2 2 c2, .slice a3 ln.length c3] 40)).alloc (.cells #[.int .i64 1, .int .i64 1] 53)).alloc (.cells #[.slice none 0 0, .slice none 0 0, .slice none 0 0] 40))) := (((Below.refl _ W).alloc (Nat.le_refl _) _).alloc (by simp) _).alloc (by simp; omega) _
  have HL : Hid (ln.length ≤ 1048576) := Nat.le_trans hl (by decide)
  clear h
  go_enter Try.func62, Try.ntmps62
  go_wp2_with fail
  refine (copyPair_any _ B _ _ _ ⟨[s0, 0], [l0, 0], ln⟩ (HR.out _ HB3.out) (by simp) (by simp) HL.out).mono ?_
  rintro e w1 ⟨x', y', z', rfl, ho, hb⟩
  obtain ⟨b1, d1, rfl⟩ := ho.st.shape
  obtain ⟨b2, d2, rfl⟩ := ho.lf.shape
  obtain ⟨b3, d3, rfl⟩ := ho.ln.shape
  simp only [List.length_cons, List.length_nil, Nat.zero_add, Nat.reduceAdd] at *
  have HA : Hid (Aft W w1.heap.size (.slice a1 2 c1) (.slice a2 2 c2) (.slice a3 ln.length c3) (.slice b1 2 d1) (.slice b2 2 d2) (.slice b3 ln.length d3) 1 1 ⟨[s0, 0], [l0, 0], ln⟩ (w1.alloc (.cells #[.slice b1 2 d1, .slice b2 2 d2, .slice b3 ln.length d3] 40))) := by
    refine Aft.start ?_ ?_
    · simpa using hb
    · simpa using ho
  clear ho hb HB3
  obtain ⟨p0, p1, p2, p3, -⟩ := HA.out.px
  obtain ⟨t0, t1, t2, -⟩ := HA.out.sx
  obtain ⟨n0, n1, n2, n3, nf⟩ := HA.out.nx
  go_wp2_with fail
  refine (sideOf_any _ _ _ _ ⟨[s0, 0], [l0, 0], ln⟩ 1 (HR.out _ HA.out.below).reads (by simp) (by simp)).mono ?_
  rintro e w2 ⟨rfl, hb2⟩
  have HA2 : Hid (Aft W w1.heap.size (.slice a1 2 c1) (.slice a2 2 c2) (.slice a3 ln.length c3) (.slice b1 2 d1) (.slice b2 2 d2) (.slice b3 ln.length d3) 1 1 ⟨[s0, 0], [l0, 0], ln⟩ w2) := HA.out.step hb2
  clear hb2 HA p0 p1 p2 p3 t0 t1 t2 n0 n1 n2 n3 nf
  simp only [List.getElem_cons_zero, List.getElem_cons_succ]
  go_wp2_with fail
  refine (silentSide_any _).mono ?_
  rintro e w3 ⟨rfl, hb3⟩
  have HA3 : Hid (Aft W w1.heap.size (.slice a1 2 c1) (.slice a2 2 c2) (.slice a3 ln.length c3) (.slice b1 2 d1) (.slice b2 2 d2) (.slice b3 ln.length d3) 1 1 ⟨[s0, 0], [l0, 0], ln⟩ w3) := HA2.out.step hb3
  clear hb3 HA2
  have HN : Hid (Aft W w1.heap.size (.slice a1 2 c1) (.slice a2 2 c2) (.slice a3 ln.length c3) (.slice b1 2 d1) (.slice b2 2 d2) (.slice b3 ln.length d3) 1 1 ⟨[s0, 0], [l0, 0], ln⟩ (w3.alloc (.cells #[.int .i64 1, .bool false] 61))) := HA3.out.step ((Below.refl _ w3).alloc (Nat.le_refl _) _)
  have HC : Hid (∀ ty, ∃ v' w', (Builtin.append_ #[38, 38] ty #[.slice b3 ln.length d3, .slice (some ⟨w3.heap.size, 0, none⟩) 1 1]).run Try.prog (w3.alloc (.cells #[.int .i64 1, .bool false] 61)) = .ok v' w' ∧ GrewH (w3.alloc (.cells #[.int .i64 1, .bool false] 61)) (W.heap.size + 1 + 1 + 1) (.slice b3 ln.length d3) ln' v' w') := fun ty => by
    rw [HLN.out]
    exact run_catH _ _ _ ln HN.out.own.ln _ [HD.mk 1 false] (one_hello w3 (HD.mk 1 false)) (by simp; omega) HN.out.lt2 ty
  obtain ⟨p0, p1, p2, p3, -⟩ := HA3.out.px
  obtain ⟨t0, t1, t2, -⟩ := HA3.out.sx
  obtain ⟨n0, n1, n2, n3, nf⟩ := HA3.out.nx
  go_wp2_with (at_builtin; refine list_cat (by rfl) (.tmp 27) (.tmp 32) 38 (by rfl) (.slice b3 ln.length d3) (.slice (some ⟨w3.heap.size, 0, none⟩) 1 1) (by rfl) (by rfl) _ HC.out ?_; intro v4 w4 hg4; obtain ⟨b4, d4, rfl⟩ := hg4.own.shape; have HF : Hid (Aft W w1.heap.size (.slice a1 2 c1) (.slice a2 2 c2) (.slice a3 ln.length c3) (.slice b1 2 d1) (.slice b2 2 d2) (.slice b4 ln'.length d4) 1 1 ⟨[s0, 0], [l0, 0], ln'⟩ (w4.setCell ⟨w1.heap.size, 2, none⟩ (.slice b4 ln'.length d4))) := say_line HN.out hg4; obtain ⟨u0, u1, u2, u3, uf⟩ := say_box HN.out hg4; obtain ⟨m0, m1, m2, m3, -⟩ := HF.out.nx; obtain ⟨r0, r1, r2, r3, rf⟩ := HF.out.rx; clear hg4)
  refine bodyPost_ret (v := .agg #[.slice b1 2 d1, .slice b2 2 d2, .slice b4 ln'.length d4]) (by simp [results, Try.results62, go_sem, r1, r2, r3]) rfl ⟨_, _, _, rfl, ?_, ?_⟩
  · exact HF.out.fin.1
  · exact HF.out.fin.2

set_option maxRecDepth 100000 in
set_option maxHeartbeats 4000000 in
theorem after_say_1_true (W : World) (B : Nat) (x y z : Value) (s0 s1 l0 l1 : Int) (ln : List HD)  (h : Own3 W B x y z ⟨[s0, s1], [l0, l1], ln⟩) (hl : ln.length ≤ 12) (hc : ln.length < 12) (hs : ¬ s1 = 0) :
    Calls Try.prog 62 #[.agg #[x, y, z], .agg #[.int .i64 1, .int .i64 1]] W fun e W' => ∃ x' y' z', e = .returned (.agg #[x', y', z']) ∧ Own3 W' W.heap.size x' y' z' ⟨[s0, s1], [l0, l1], ln ++ [HD.mk 1 true]⟩ ∧ Below W.heap.size W W' := by
  obtain ⟨a1, c1, rfl⟩ := h.st.shape
  obtain ⟨a2, c2, rfl⟩ := h.lf.shape
  obtain ⟨ln', hln'⟩ : ∃ ln', ln' = ln ++ [HD.mk 1 true] := ⟨_, rfl⟩
  rw [← hln']
  have HLN : Hid (ln' = ln ++ [HD.mk 1 true]) := hln'
  clear hln'
  obtain ⟨a3, c3, rfl⟩ := h.ln.shape
  simp only [List.length_cons, List.length_nil, Nat.zero_add, Nat.reduceAdd] at *
  have HR : Hid (∀ W1, Below W.heap.size W W1 → Own3 W1 B (.slice a1 2 c1) (.slice a2 2 c2) (.slice a3 ln.length c3) ⟨[s0, s1], [l0, l1], ln⟩) := fun W1 hb => h.below hb
  have HB3 : Hid (Below W.heap.size W (((W.alloc (.cells #[.slice a1 2 c1, .slice a2 2 c2, .slice a3 ln.length c3] 40)).alloc (.cells #[.int .i64 1, .int .i64 1] 53)).alloc (.cells #[.slice none 0 0, .slice none 0 0, .slice none 0 0] 40))) := (((Below.refl _ W).alloc (Nat.le_refl _) _).alloc (by simp) _).alloc (by simp; omega) _
  have HL : Hid (ln.length ≤ 1048576) := Nat.le_trans hl (by decide)
  clear h
  go_enter Try.func62, Try.ntmps62
  go_wp2_with fail
  refine (copyPair_any _ B _ _ _ ⟨[s0, s1], [l0, l1], ln⟩ (HR.out _ HB3.out) (by simp) (by simp) HL.out).mono ?_
  rintro e w1 ⟨x', y', z', rfl, ho, hb⟩
  obtain ⟨b1, d1, rfl⟩ := ho.st.shape
  obtain ⟨b2, d2, rfl⟩ := ho.lf.shape
  obtain ⟨b3, d3, rfl⟩ := ho.ln.shape
  simp only [List.length_cons, List.length_nil, Nat.zero_add, Nat.reduceAdd] at *
  have HA : Hid (Aft W w1.heap.size (.slice a1 2 c1) (.slice a2 2 c2) (.slice a3 ln.length c3) (.slice b1 2 d1) (.slice b2 2 d2) (.slice b3 ln.length d3) 1 1 ⟨[s0, s1], [l0, l1], ln⟩ (w1.alloc (.cells #[.slice b1 2 d1, .slice b2 2 d2, .slice b3 ln.length d3] 40))) := by
    refine Aft.start ?_ ?_
    · simpa using hb
    · simpa using ho
  clear ho hb HB3
  obtain ⟨p0, p1, p2, p3, -⟩ := HA.out.px
  obtain ⟨t0, t1, t2, -⟩ := HA.out.sx
  obtain ⟨n0, n1, n2, n3, nf⟩ := HA.out.nx
  go_wp2_with fail
  refine (sideOf_any _ _ _ _ ⟨[s0, s1], [l0, l1], ln⟩ 1 (HR.out _ HA.out.below).reads (by simp) (by simp)).mono ?_
  rintro e w2 ⟨rfl, hb2⟩
  have HA2 : Hid (Aft W w1.heap.size (.slice a1 2 c1) (.slice a2 2 c2) (.slice a3 ln.length c3) (.slice b1 2 d1) (.slice b2 2 d2) (.slice b3 ln.length d3) 1 1 ⟨[s0, s1], [l0, l1], ln⟩ w2) := HA.out.step hb2
  clear hb2 HA p0 p1 p2 p3 t0 t1 t2 n0 n1 n2 n3 nf
  simp only [List.getElem_cons_zero, List.getElem_cons_succ]
  go_wp2_with fail
  refine (silentSide_any _).mono ?_
  rintro e w3 ⟨rfl, hb3⟩
  have HA3 : Hid (Aft W w1.heap.size (.slice a1 2 c1) (.slice a2 2 c2) (.slice a3 ln.length c3) (.slice b1 2 d1) (.slice b2 2 d2) (.slice b3 ln.length d3) 1 1 ⟨[s0, s1], [l0, l1], ln⟩ w3) := HA2.out.step hb3
  clear hb3 HA2
  have HN : Hid (Aft W w1.heap.size (.slice a1 2 c1) (.slice a2 2 c2) (.slice a3 ln.length c3) (.slice b1 2 d1) (.slice b2 2 d2) (.slice b3 ln.length d3) 1 1 ⟨[s0, s1], [l0, l1], ln⟩ (w3.alloc (.cells #[.int .i64 1, .bool true] 61))) := HA3.out.step ((Below.refl _ w3).alloc (Nat.le_refl _) _)
  have HC : Hid (∀ ty, ∃ v' w', (Builtin.append_ #[38, 38] ty #[.slice b3 ln.length d3, .slice (some ⟨w3.heap.size, 0, none⟩) 1 1]).run Try.prog (w3.alloc (.cells #[.int .i64 1, .bool true] 61)) = .ok v' w' ∧ GrewH (w3.alloc (.cells #[.int .i64 1, .bool true] 61)) (W.heap.size + 1 + 1 + 1) (.slice b3 ln.length d3) ln' v' w') := fun ty => by
    rw [HLN.out]
    exact run_catH _ _ _ ln HN.out.own.ln _ [HD.mk 1 true] (one_hello w3 (HD.mk 1 true)) (by simp; omega) HN.out.lt2 ty
  obtain ⟨p0, p1, p2, p3, -⟩ := HA3.out.px
  obtain ⟨t0, t1, t2, -⟩ := HA3.out.sx
  obtain ⟨n0, n1, n2, n3, nf⟩ := HA3.out.nx
  go_wp2_with (at_builtin; refine list_cat (by rfl) (.tmp 27) (.tmp 32) 38 (by rfl) (.slice b3 ln.length d3) (.slice (some ⟨w3.heap.size, 0, none⟩) 1 1) (by rfl) (by rfl) _ HC.out ?_; intro v4 w4 hg4; obtain ⟨b4, d4, rfl⟩ := hg4.own.shape; have HF : Hid (Aft W w1.heap.size (.slice a1 2 c1) (.slice a2 2 c2) (.slice a3 ln.length c3) (.slice b1 2 d1) (.slice b2 2 d2) (.slice b4 ln'.length d4) 1 1 ⟨[s0, s1], [l0, l1], ln'⟩ (w4.setCell ⟨w1.heap.size, 2, none⟩ (.slice b4 ln'.length d4))) := say_line HN.out hg4; obtain ⟨u0, u1, u2, u3, uf⟩ := say_box HN.out hg4; obtain ⟨m0, m1, m2, m3, -⟩ := HF.out.nx; obtain ⟨r0, r1, r2, r3, rf⟩ := HF.out.rx; clear hg4)
  refine bodyPost_ret (v := .agg #[.slice b1 2 d1, .slice b2 2 d2, .slice b4 ln'.length d4]) (by simp [results, Try.results62, go_sem, r1, r2, r3]) rfl ⟨_, _, _, rfl, ?_, ?_⟩
  · exact HF.out.fin.1
  · exact HF.out.fin.2

end Go.Proofs.Ytchddjidjfpehaa

namespace Go.Proofs.Ytchddjidjfpehaa
open Go.RowKit


set_option maxRecDepth 100000 in
set_option maxHeartbeats 4000000 in
theorem after_tick (W : World) (B : Nat) (x y z : Value) (s0 s1 l0 l1 : Int) (ln : List HD)  (h : Own3 W B x y z ⟨[s0, s1], [l0, l1], ln⟩) (hl : ln.length ≤ 12) (g0 : goodS s0 l0 = true) (g1 : goodS s1 l1 = true) :
    Calls Try.prog 62 #[.agg #[x, y, z], .agg #[.int .i64 4, .int .i64 0]] W fun e W' => ∃ x' y' z', e = .returned (.agg #[x', y', z']) ∧ Own3 W' W.heap.size x' y' z' ⟨[tickS s0 l0, tickS s1 l1], [tickL l0, tickL l1], ln⟩ ∧ Below W.heap.size W W' := by
  obtain ⟨a1, c1, rfl⟩ := h.st.shape
  obtain ⟨a2, c2, rfl⟩ := h.lf.shape
  obtain ⟨a3, c3, rfl⟩ := h.ln.shape
  simp only [List.length_cons, List.length_nil, Nat.zero_add, Nat.reduceAdd] at *
  have HR : Hid (∀ W1, Below W.heap.size W W1 → Own3 W1 B (.slice a1 2 c1) (.slice a2 2 c2) (.slice a3 ln.length c3) ⟨[s0, s1], [l0, l1], ln⟩) := fun W1 hb => h.below hb
  have HB3 : Hid (Below W.heap.size W (((W.alloc (.cells #[.slice a1 2 c1, .slice a2 2 c2, .slice a3 ln.length c3] 40)).alloc (.cells #[.int .i64 4, .int .i64 0] 53)).alloc (.cells #[.slice none 0 0, .slice none 0 0, .slice none 0 0] 40))) := (((Below.refl _ W).alloc (Nat.le_refl _) _).alloc (by simp) _).alloc (by simp; omega) _
  have HL : Hid (ln.length ≤ 1048576) := Nat.le_trans hl (by decide)
  clear h
  go_enter Try.func62, Try.ntmps62
  go_wp2_with fail
  refine (copyPair_any _ B _ _ _ ⟨[s0, s1], [l0, l1], ln⟩ (HR.out _ HB3.out) (by simp) (by simp) HL.out).mono ?_
  rintro e w1 ⟨x', y', z', rfl, ho, hb⟩
  obtain ⟨b1, d1, rfl⟩ := ho.st.shape
  obtain ⟨b2, d2, rfl⟩ := ho.lf.shape
  obtain ⟨b3, d3, rfl⟩ := ho.ln.shape
  simp only [List.length_cons, List.length_nil, Nat.zero_add, Nat.reduceAdd] at *
  have HA : Hid (Aft W w1.heap.size (.slice a1 2 c1) (.slice a2 2 c2) (.slice a3 ln.length c3) (.slice b1 2 d1) (.slice b2 2 d2) (.slice b3 ln.length d3) 4 0 ⟨[s0, s1], [l0, l1], ln⟩ (w1.alloc (.cells #[.slice b1 2 d1, .slice b2 2 d2, .slice b3 ln.length d3] 40))) := by
    refine Aft.start ?_ ?_
    · simpa using hb
    · simpa using ho
  clear ho hb HB3
  obtain ⟨t0, t1, t2, -⟩ := HA.out.sx
  go_wp2
  clear t0 t1 t2
  refine wp_loop_rounds 3 ?_
  obtain ⟨p0, p1, p2, p3, -⟩ := HA.out.px
  obtain ⟨n0, n1, n2, n3, nf⟩ := HA.out.nx
  have HD0 : Aft W w1.heap.size (.slice a1 2 c1) (.slice a2 2 c2) (.slice a3 ln.length c3) (.slice b1 2 d1) (.slice b2 2 d2) (.slice b3 ln.length d3) 4 0 ⟨[s0, s1], [l0, l1], ln⟩ (w1.alloc (.cells #[.slice b1 2 d1, .slice b2 2 d2, .slice b3 ln.length d3] 40)).drew := HA.out.drew
  rw [rounds_succ]
  go_wp2
  go_region_held3 (fun w' => w'.cell? ⟨w1.heap.size, 0, none⟩ = some (.slice b1 2 d1) ∧ w'.cell? ⟨w1.heap.size, 1, none⟩ = some (.slice b2 2 d2) ∧ w'.cell? ⟨w1.heap.size, 2, none⟩ = some (.slice b3 ln.length d3) ∧ w'.cell? ⟨W.heap.size, 0, none⟩ = some (.slice a1 2 c1) ∧ w'.cell? ⟨W.heap.size, 1, none⟩ = some (.slice a2 2 c2) ∧ w'.cell? ⟨W.heap.size, 2, none⟩ = some (.slice a3 ln.length c3))
    (first | exact ⟨HZ0.nx.c0, HZ0.nx.c1, HZ0.nx.c2, HZ0.px.c0, HZ0.px.c1, HZ0.px.c2⟩ | exact ⟨HY0.nx.c0, HY0.nx.c1, HY0.nx.c2, HY0.px.c0, HY0.px.c1, HY0.px.c2⟩ | exact ⟨HX0.nx.c0, HX0.nx.c1, HX0.nx.c2, HX0.px.c0, HX0.px.c1, HX0.px.c2⟩ | exact ⟨HD0.nx.c0, HD0.nx.c1, HD0.nx.c2, HD0.px.c0, HD0.px.c1, HD0.px.c2⟩)
    (first
      | (refine step_call (by rfl) 58 #[.agg #[.slice a1 2 c1, .slice a2 2 c2, .slice a3 ln.length c3], .int .i64 0] (by simp [go_sem]) ((sideOf_any _ _ _ _ ⟨[s0, s1], [l0, l1], ln⟩ 0 (HR.out _ HD0.below).reads (by simp) (by simp)).mono ?_); rintro e w2 ⟨rfl, hb2⟩; refine ⟨_, rfl, ?_⟩; have HX0 := HD0.step hb2; simp only [List.getElem_cons_zero])
      | (refine step_call (by rfl) 89 #[.agg #[.int .i64 s0, .int .i64 l0]] (by simp [go_sem]) ((afterTick_any s0 l0 _ g0).mono ?_); rintro e w3 ⟨rfl, hb3⟩; refine ⟨_, rfl, ?_⟩; have HY0 := HX0.step hb3)
      | (refine step_call (by rfl) 88 #[.agg #[.slice b1 2 d1, .slice b2 2 d2, .slice b3 ln.length d3], .int .i64 0, .agg #[.int .i64 (tickS s0 l0), .int .i64 (tickL l0)]] (by simp [go_sem]) ((setSide_any _ _ _ _ _ _ 0 (tickS s0 l0) (tickL l0) HY0.own HY0.lt2 (by simp) (by simp)).mono ?_); rintro e w4 ⟨⟨v, rfl⟩, ho4, hb4, hz4, hk4⟩; refine ⟨_, rfl, ?_⟩; have HZ0 : Aft W w1.heap.size (.slice a1 2 c1) (.slice a2 2 c2) (.slice a3 ln.length c3) (.slice b1 2 d1) (.slice b2 2 d2) (.slice b3 ln.length d3) 4 0 ⟨[tickS s0 l0, s1], [tickL l0, l1], ln⟩ w4 := HY0.wrote ⟨hb4, hz4, hk4⟩ ho4))
  all_goals
    have HA1 : Hid (Aft W w1.heap.size (.slice a1 2 c1) (.slice a2 2 c2) (.slice a3 ln.length c3) (.slice b1 2 d1) (.slice b2 2 d2) (.slice b3 ln.length d3) 4 0 ⟨[tickS s0 l0, s1], [tickL l0, l1], ln⟩ w4) := HZ0
    clear p0 p1 p2 p3 n0 n1 n2 n3 nf HD0 HX0 HY0 HZ0 hb2 hb3 ho4 hb4 hz4 hk4
    go_wp2
    obtain ⟨p0, p1, p2, p3, -⟩ := HA1.out.px
    obtain ⟨n0, n1, n2, n3, nf⟩ := HA1.out.nx
    have HD1 : Aft W w1.heap.size (.slice a1 2 c1) (.slice a2 2 c2) (.slice a3 ln.length c3) (.slice b1 2 d1) (.slice b2 2 d2) (.slice b3 ln.length d3) 4 0 ⟨[tickS s0 l0, s1], [tickL l0, l1], ln⟩ w4.drew := HA1.out.drew
    rw [rounds_succ]
    go_wp2
    go_region_held3 (fun w' => w'.cell? ⟨w1.heap.size, 0, none⟩ = some (.slice b1 2 d1) ∧ w'.cell? ⟨w1.heap.size, 1, none⟩ = some (.slice b2 2 d2) ∧ w'.cell? ⟨w1.heap.size, 2, none⟩ = some (.slice b3 ln.length d3) ∧ w'.cell? ⟨W.heap.size, 0, none⟩ = some (.slice a1 2 c1) ∧ w'.cell? ⟨W.heap.size, 1, none⟩ = some (.slice a2 2 c2) ∧ w'.cell? ⟨W.heap.size, 2, none⟩ = some (.slice a3 ln.length c3))
      (first | exact ⟨HZ1.nx.c0, HZ1.nx.c1, HZ1.nx.c2, HZ1.px.c0, HZ1.px.c1, HZ1.px.c2⟩ | exact ⟨HY1.nx.c0, HY1.nx.c1, HY1.nx.c2, HY1.px.c0, HY1.px.c1, HY1.px.c2⟩ | exact ⟨HX1.nx.c0, HX1.nx.c1, HX1.nx.c2, HX1.px.c0, HX1.px.c1, HX1.px.c2⟩ | exact ⟨HD1.nx.c0, HD1.nx.c1, HD1.nx.c2, HD1.px.c0, HD1.px.c1, HD1.px.c2⟩)
      (first
        | (refine step_call (by rfl) 58 #[.agg #[.slice a1 2 c1, .slice a2 2 c2, .slice a3 ln.length c3], .int .i64 1] (by simp [go_sem]) ((sideOf_any _ _ _ _ ⟨[s0, s1], [l0, l1], ln⟩ 1 (HR.out _ HD1.below).reads (by simp) (by simp)).mono ?_); rintro e w5 ⟨rfl, hb5⟩; refine ⟨_, rfl, ?_⟩; have HX1 := HD1.step hb5; simp only [List.getElem_cons_zero, List.getElem_cons_succ])
        | (refine step_call (by rfl) 89 #[.agg #[.int .i64 s1, .int .i64 l1]] (by simp [go_sem]) ((afterTick_any s1 l1 _ g1).mono ?_); rintro e w6 ⟨rfl, hb6⟩; refine ⟨_, rfl, ?_⟩; have HY1 := HX1.step hb6)
        | (refine step_call (by rfl) 88 #[.agg #[.slice b1 2 d1, .slice b2 2 d2, .slice b3 ln.length d3], .int .i64 1, .agg #[.int .i64 (tickS s1 l1), .int .i64 (tickL l1)]] (by simp [go_sem]) ((setSide_any _ _ _ _ _ _ 1 (tickS s1 l1) (tickL l1) HY1.own HY1.lt2 (by simp) (by simp)).mono ?_); rintro e w7 ⟨⟨v, rfl⟩, ho7, hb7, hz7, hk7⟩; refine ⟨_, rfl, ?_⟩; have HZ1 : Aft W w1.heap.size (.slice a1 2 c1) (.slice a2 2 c2) (.slice a3 ln.length c3) (.slice b1 2 d1) (.slice b2 2 d2) (.slice b3 ln.length d3) 4 0 ⟨[tickS s0 l0, tickS s1 l1], [tickL l0, tickL l1], ln⟩ w7 := HY1.wrote ⟨hb7, hz7, hk7⟩ ho7))
    all_goals
      have HA2 : Hid (Aft W w1.heap.size (.slice a1 2 c1) (.slice a2 2 c2) (.slice a3 ln.length c3) (.slice b1 2 d1) (.slice b2 2 d2) (.slice b3 ln.length d3) 4 0 ⟨[tickS s0 l0, tickS s1 l1], [tickL l0, tickL l1], ln⟩ w7) := HZ1
      clear p0 p1 p2 p3 n0 n1 n2 n3 nf HD1 HX1 HY1 HZ1 hb5 hb6 ho7 hb7 hz7 hk7
      go_wp2
      rw [rounds_succ]
      obtain ⟨p0, p1, p2, p3, -⟩ := HA2.out.px
      obtain ⟨n0, n1, n2, n3, nf⟩ := HA2.out.nx
      obtain ⟨r0, r1, r2, r3, rf⟩ := HA2.out.rx
      go_wp2
      refine bodyPost_ret (v := .agg #[.slice b1 2 d1, .slice b2 2 d2, .slice b3 ln.length d3]) (by simp [results, Try.results62, go_sem, r1, r2, r3]) rfl ⟨_, _, _, rfl, ?_, ?_⟩
      · exact HA2.out.fin.1
      · exact HA2.out.fin.2

end Go.Proofs.Ytchddjidjfpehaa
