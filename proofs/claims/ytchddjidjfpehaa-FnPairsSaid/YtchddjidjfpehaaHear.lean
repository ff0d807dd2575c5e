/-
  'hear' of the program.
-/
import Derived.Test.YtchddjidjfpehaaSideOf
import Derived.Test.YtchddjidjfpehaaNextSt
import Derived.Test.YtchddjidjfpehaaCopyP
namespace Go.Proofs.Ytchddjidjfpehaa
open Go.RowKit

/-- Two cells at a block's head. -/
structure Bx2 (W : World) (b : Nat) (x y : Value) : Prop where
  lt : b < W.heap.size
  c0 : W.cell? ⟨b, 0, none⟩ = some x
  c1 : W.cell? ⟨b, 1, none⟩ = some y
  fz : ∀ j, W.frozen? ⟨b, j, none⟩ = false
theorem Bx2.below {W W' : World} {b : Nat} {x y : Value} (h : Bx2 W b x y) (hb : Below W.heap.size W W') : Bx2 W' b x y :=
  ⟨Nat.lt_of_lt_of_le h.lt hb.size, (hb.cell (p := ⟨b, 0, none⟩) h.lt).trans h.c0, (hb.cell (p := ⟨b, 1, none⟩) h.lt).trans h.c1, fun j => (hb.frozen (p := ⟨b, j, none⟩) h.lt).trans (h.fz j)⟩
theorem Bx2.new (W : World) (x y : Value) (t : TypeId) : Bx2 (W.alloc (.cells #[x, y] t)) W.heap.size x y := by
  refine ⟨by simp, ?_, ?_, fun j => ?_⟩
  · rw [World.cell?_alloc_at _ _ _ _ rfl]; rfl
  · rw [World.cell?_alloc_at _ _ _ _ rfl]; rfl
  · exact World.frozen?_alloc_at _ _ _ _ rfl
theorem Bx2.same {W W' : World} {b : Nat} {x y : Value} (h : Bx2 W b x y) (e : W'.heap[b]? = W.heap[b]?) (hs : W.heap.size ≤ W'.heap.size) : Bx2 W' b x y :=
  ⟨Nat.lt_of_lt_of_le h.lt hs, (World.cell?_of_block e).trans h.c0, (World.cell?_of_block e).trans h.c1, fun j => (World.frozen?_of_block e).trans (h.fz j)⟩
theorem Bx3.same {W W' : World} {b : Nat} {x y z : Value} (h : Bx3 W b x y z) (e : W'.heap[b]? = W.heap[b]?) (hs : W.heap.size ≤ W'.heap.size) : Bx3 W' b x y z :=
  ⟨Nat.lt_of_lt_of_le h.lt hs, (World.cell?_of_block e).trans h.c0, (World.cell?_of_block e).trans h.c1, (World.cell?_of_block e).trans h.c2, fun j => (World.frozen?_of_block e).trans (h.fz j)⟩
theorem Bx2.cells {W : World} {b : Nat} {x y : Value} (h : Bx2 W b x y) : W.cell? ⟨b, 0, none⟩ = some x ∧ W.cell? ⟨b, 1, none⟩ = some y := ⟨h.c0, h.c1⟩
theorem Bx2.drew {W : World} {b : Nat} {x y : Value} (h : Bx2 W b x y) : Bx2 W.drew b x y := h.below ((Below.refl _ W).drew)

theorem nextS_good (s : Int) (h : Bool) (hs : stateB s = true) : nextS s h = heardS h := by unfold nextS; rw [hs]; rfl

/-- A call that writes into two rows and makes memory. -/
structure Wrote (W W' : World) (B : Nat) (x y : Value) : Prop where
  below : Below B W W'
  size : W.heap.size ≤ W'.heap.size
  block : ∀ b, b < W.heap.size → x.ownBlock ≠ some b → y.ownBlock ≠ some b → W'.heap[b]? = W.heap[b]?

set_option maxRecDepth 100000 in
set_option maxHeartbeats 2000000 in
theorem hear_any (W : World) (B : Nat) (x y z : Value) (s0 s1 l0 l1 : Int) (ln : List HD) (q : HD) (h : Own3 W B x y z ⟨[s0, s1], [l0, l1], ln⟩) (hB : B ≤ W.heap.size) (hf : q.f = 0 ∨ q.f = 1) (g0 : stateB s0 = true) (g1 : stateB s1 = true) :
    Calls Try.prog 86 #[.agg #[x, y, z], .agg #[.int .i64 q.f, .bool q.h]] W fun e W' => (∃ v, e = .returned v) ∧ Own3 W' B x y z ⟨[s0, s1].set (1 - q.f).toNat (heardS q.h), [l0, l1].set (1 - q.f).toNat 3, ln⟩ ∧ Wrote W W' B x y := by
  obtain ⟨a1, c1, rfl, hc1⟩ := h.st.form
  obtain ⟨a2, c2, rfl⟩ := h.lf.shape
  obtain ⟨a3, c3, rfl⟩ := h.ln.shape
  obtain ⟨r1, rfl, hB1, hr1, hcell1, -⟩ := hc1.resolve_left (by simp)
  have k0 := hcell1 0 (by simp)
  have k1 := hcell1 1 (by simp)
  simp only [List.getElem_cons_zero, List.getElem_cons_succ, List.length_cons, List.length_nil, Nat.zero_add, Nat.reduceAdd] at *
  have HO : Hid (Own3 ((W.alloc (.cells #[.slice (some ⟨r1, 0, none⟩) 2 c1, .slice a2 2 c2, .slice a3 ln.length c3] 40)).alloc (.cells #[.int .i64 q.f, .bool q.h] 61)).drew B (.slice (some ⟨r1, 0, none⟩) 2 c1) (.slice a2 2 c2) (.slice a3 ln.length c3) ⟨[s0, s1], [l0, l1], ln⟩) := ((h.below ((Below.refl _ W).alloc (Nat.le_refl _) _)).below ((Below.refl _ _).alloc (Nat.le_refl _) _)).drew
  have HB0 : Hid (Below W.heap.size W ((W.alloc (.cells #[.slice (some ⟨r1, 0, none⟩) 2 c1, .slice a2 2 c2, .slice a3 ln.length c3] 40)).alloc (.cells #[.int .i64 q.f, .bool q.h] 61)).drew) := (((Below.refl _ W).alloc (Nat.le_refl _) _).alloc (by simp) _).drew
  have HBB : Hid (B ≤ (((W.alloc (.cells #[.slice (some ⟨r1, 0, none⟩) 2 c1, .slice a2 2 c2, .slice a3 ln.length c3] 40)).alloc (.cells #[.int .i64 q.f, .bool q.h] 61)).drew).heap.size) := by show _ ≤ _; simp [World.drew]; omega
  have HHB : Hid (B ≤ W.heap.size) := hB
  obtain ⟨f, b⟩ := q
  simp only at *
  clear h hc1 hcell1 hB1
  have N0 : Hid (nextS s0 b = heardS b) := nextS_good s0 b g0
  have N1 : Hid (nextS s1 b = heardS b) := nextS_good s1 b g1
  have G0 : Hid (stateB s0 = true) := g0
  have G1 : Hid (stateB s1 = true) := g1
  clear g0 g1
  rcases hf with rfl | rfl
  · rw [show ((1 : Int) - 0).toNat = 1 from rfl]
    go_enter Try.func86, Try.ntmps86
    go_wp2
    go_region_with (go_at_call 27; refine (implNext_any s1 b _).mono ?_; rintro e w1 ⟨rfl, rfl⟩; rw [N1.out, G1.out])
    all_goals
      go_wp2_with fail
      refine (setSide_any _ B _ _ _ _ 1 (heardS b) 3 HO.out HBB.out (by simp) (by simp)).mono ?_
      rintro e w2 ⟨⟨v, rfl⟩, ho2, hb2, hz2, hk2⟩
      have HW : Hid (Wrote W w2 B (.slice (some ⟨r1, 0, none⟩) 2 c1) (.slice a2 2 c2)) := ⟨(HB0.out.mono HHB.out).trans hb2, Nat.le_trans HB0.out.size hz2, fun b hb n1 n2 => (hk2 b (Nat.lt_of_lt_of_le hb HB0.out.size) n1 n2).trans (HB0.out.block b hb)⟩
      have HO2 : Hid (Own3 w2 B (.slice (some ⟨r1, 0, none⟩) 2 c1) (.slice a2 2 c2) (.slice a3 ln.length c3) ⟨[s0, s1].set 1 (heardS b), [l0, l1].set 1 3, ln⟩) := ho2
      clear ho2 hb2 hz2 hk2
      go_wp2
      refine bodyPost_end (v := .tuple #[]) (by simp [results, Try.results86]) rfl ⟨⟨_, rfl⟩, HO2.out, HW.out⟩
  · rw [show ((1 : Int) - 1).toNat = 0 from rfl]
    go_enter Try.func86, Try.ntmps86
    go_wp2
    go_region_with (go_at_call 27; refine (implNext_any s0 b _).mono ?_; rintro e w1 ⟨rfl, rfl⟩; rw [N0.out, G0.out])
    all_goals
      go_wp2_with fail
      refine (setSide_any _ B _ _ _ _ 0 (heardS b) 3 HO.out HBB.out (by simp) (by simp)).mono ?_
      rintro e w2 ⟨⟨v, rfl⟩, ho2, hb2, hz2, hk2⟩
      have HW : Hid (Wrote W w2 B (.slice (some ⟨r1, 0, none⟩) 2 c1) (.slice a2 2 c2)) := ⟨(HB0.out.mono HHB.out).trans hb2, Nat.le_trans HB0.out.size hz2, fun b hb n1 n2 => (hk2 b (Nat.lt_of_lt_of_le hb HB0.out.size) n1 n2).trans (HB0.out.block b hb)⟩
      have HO2 : Hid (Own3 w2 B (.slice (some ⟨r1, 0, none⟩) 2 c1) (.slice a2 2 c2) (.slice a3 ln.length c3) ⟨[s0, s1].set 0 (heardS b), [l0, l1].set 0 3, ln⟩) := ho2
      clear ho2 hb2 hz2 hk2
      go_wp2
      refine bodyPost_end (v := .tuple #[]) (by simp [results, Try.results86]) rfl ⟨⟨_, rfl⟩, HO2.out, HW.out⟩
end Go.Proofs.Ytchddjidjfpehaa
