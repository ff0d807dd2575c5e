/-
  Pairs in memory, and what the laws' functions over them answer: 'szPair', 'toPair', 'toPairStep', 'eqPair', 'markPair', 'heldPair'.
-/
import Derived.Test.YtchddjidjfpehatHelloLaw
namespace Go.Proofs.Ytchddjidjfpehat
open Go.RowKit

/-- Three cells at a block's head, free to be written. -/
structure Bx3 (W : World) (b : Nat) (x y z : Value) : Prop where
  lt : b < W.heap.size
  c0 : W.cell? ⟨b, 0, none⟩ = some x
  c1 : W.cell? ⟨b, 1, none⟩ = some y
  c2 : W.cell? ⟨b, 2, none⟩ = some z
  fz : ∀ j, W.frozen? ⟨b, j, none⟩ = false
theorem Bx3.below {W W' : World} {b : Nat} {x y z : Value} (h : Bx3 W b x y z) (hb : Below W.heap.size W W') : Bx3 W' b x y z :=
  ⟨Nat.lt_of_lt_of_le h.lt hb.size, (hb.cell (p := ⟨b, 0, none⟩) h.lt).trans h.c0, (hb.cell (p := ⟨b, 1, none⟩) h.lt).trans h.c1, (hb.cell (p := ⟨b, 2, none⟩) h.lt).trans h.c2, fun j => (hb.frozen (p := ⟨b, j, none⟩) h.lt).trans (h.fz j)⟩
theorem Bx3.new (W : World) (x y z : Value) (t : TypeId) : Bx3 (W.alloc (.cells #[x, y, z] t)) W.heap.size x y z := by
  refine ⟨by simp, ?_, ?_, ?_, fun j => ?_⟩
  · rw [World.cell?_alloc_at _ _ _ _ rfl]; rfl
  · rw [World.cell?_alloc_at _ _ _ _ rfl]; rfl
  · rw [World.cell?_alloc_at _ _ _ _ rfl]; rfl
  · exact World.frozen?_alloc_at _ _ _ _ rfl
theorem Bx3.other {W : World} {b : Nat} {x y z : Value} (h : Bx3 W b x y z) {p : Addr} (hp : p.block ≠ b) (u : Value) : Bx3 (W.setCell p u) b x y z := by
  have e : ∀ j, (W.setCell p u).cell? ⟨b, j, none⟩ = W.cell? ⟨b, j, none⟩ := fun j => World.cell?_of_block (Below.heap_setCell _ _ _ _ (fun e => hp e.symm))
  exact ⟨by simpa [World.setCell] using h.lt, (e 0).trans h.c0, (e 1).trans h.c1, (e 2).trans h.c2, fun j => (World.frozen?_of_block (Below.heap_setCell _ _ _ _ (fun e => hp e.symm))).trans (h.fz j)⟩
theorem Bx3.put0 {W : World} {b : Nat} {x y z : Value} (h : Bx3 W b x y z) (u : Value) : Bx3 (W.setCell ⟨b, 0, none⟩ u) b u y z :=
  ⟨by simpa [World.setCell] using h.lt, by simp [go_sem, h.c0], by simp [go_sem, h.c1], by simp [go_sem, h.c2], fun j => by simp [go_sem, h.fz]⟩
theorem Bx3.put1 {W : World} {b : Nat} {x y z : Value} (h : Bx3 W b x y z) (u : Value) : Bx3 (W.setCell ⟨b, 1, none⟩ u) b x u z :=
  ⟨by simpa [World.setCell] using h.lt, by simp [go_sem, h.c0], by simp [go_sem, h.c1], by simp [go_sem, h.c2], fun j => by simp [go_sem, h.fz]⟩
theorem Bx3.put2 {W : World} {b : Nat} {x y z : Value} (h : Bx3 W b x y z) (u : Value) : Bx3 (W.setCell ⟨b, 2, none⟩ u) b x y u :=
  ⟨by simpa [World.setCell] using h.lt, by simp [go_sem, h.c0], by simp [go_sem, h.c1], by simp [go_sem, h.c2], fun j => by simp [go_sem, h.fz]⟩

/-- The three slices of a pair read as its data. -/
structure Reads3 (W : World) (x y z : Value) (p : PR) : Prop where
  st : Reads W x p.st
  lf : Reads W y p.lf
  ln : ReadsH W z p.ln
theorem Reads3.below {W W' : World} {x y z : Value} {p : PR} (h : Reads3 W x y z p) (hb : Below W.heap.size W W') : Reads3 W' x y z p := ⟨h.st.below hb, h.lf.below hb, h.ln.below hb⟩

/-- The three slices of a pair own its data, no two of them one block. -/
structure Own3 (W : World) (B : Nat) (x y z : Value) (p : PR) : Prop where
  st : Own W B x p.st
  lf : Own W B y p.lf
  ln : OwnH W B z p.ln
  apart : ∀ k, x.ownBlock = some k → y.ownBlock ≠ some k
theorem Own3.below {W W' : World} {B : Nat} {x y z : Value} {p : PR} (h : Own3 W B x y z p) (hb : Below W.heap.size W W') : Own3 W' B x y z p := ⟨h.st.below hb, h.lf.below hb, h.ln.below hb, h.apart⟩
theorem Own3.mono {W : World} {B B' : Nat} {x y z : Value} {p : PR} (h : Own3 W B x y z p) (hB : B' ≤ B) : Own3 W B' x y z p := ⟨h.st.mono hB, h.lf.mono hB, h.ln.mono hB, h.apart⟩
theorem Own3.reads {W : World} {B : Nat} {x y z : Value} {p : PR} (h : Own3 W B x y z p) : Reads3 W x y z p := ⟨h.st.reads, h.lf.reads, h.ln.reads⟩
theorem Own3.nil (W : World) (B : Nat) : Own3 W B (.slice none 0 0) (.slice none 0 0) (.slice none 0 0) noP := ⟨Own.nil W B, Own.nil W B, OwnH.nil W B, fun k hk => by simp [Value.ownBlock] at hk⟩
theorem Own3.setCell {W : World} {B : Nat} {x y z : Value} {p : PR} (h : Own3 W B x y z p) {a : Addr} (ha : a.block < B) (u : Value) : Own3 (W.setCell a u) B x y z p := ⟨h.st.setCell ha u, h.lf.setCell ha u, h.ln.setCell ha u, h.apart⟩

/-- A block among the own blocks of three values. -/
def Has (x y z : Value) (j : Nat) : Prop := x.ownBlock = some j ∨ y.ownBlock = some j ∨ z.ownBlock = some j
/-- What goes on in the own blocks of three values alone. -/
structure Keep (W W' : World) (x y z : Value) : Prop where
  size : W.heap.size ≤ W'.heap.size
  block : ∀ b, b < W.heap.size → ¬ Has x y z b → W'.heap[b]? = W.heap[b]?
theorem Own3.lt {W : World} {B : Nat} {x y z : Value} {p : PR} (h : Own3 W B x y z p) (k : Nat) (hk : Has x y z k) : B ≤ k ∧ k < W.heap.size := by
  rcases hk with hk | hk | hk
  · exact World.ownsRow.lt h.st k hk
  · exact World.ownsRow.lt h.lf k hk
  · exact World.ownsRow.lt h.ln k hk
theorem row_same {W W' : World} {B : Nat} {e : TypeId} {size : Nat} {v : Value} {n : Nat} {xs : List Value} (h : W.ownsRow B e size v n xs) (he : ∀ k, v.ownBlock = some k → W'.heap[k]? = W.heap[k]?) : W'.ownsRow B e size v n xs := by
  refine ⟨h.1, ?_⟩
  rcases h.2 with hn | ⟨g, cap, cur, hv, h1, hg, hrest⟩
  · exact .inl hn
  · exact .inr ⟨g, cap, cur, hv, h1, (he g (by rw [hv]; rfl)).trans hg, hrest⟩
theorem Own3.same {W W' : World} {B : Nat} {x y z : Value} {p : PR} (h : Own3 W B x y z p) (he : ∀ k, Has x y z k → W'.heap[k]? = W.heap[k]?) : Own3 W' B x y z p :=
  ⟨row_same h.st fun k hk => he k (.inl hk), row_same h.lf fun k hk => he k (.inr (.inl hk)), row_same h.ln fun k hk => he k (.inr (.inr hk)), h.apart⟩
theorem Own3.keep {W W' : World} {B : Nat} {x y z x' y' z' : Value} {p : PR} (h : Own3 W B x y z p) (hk : Keep W W' x' y' z') (hne : ∀ k, Has x y z k → ¬ Has x' y' z' k) : Own3 W' B x y z p :=
  h.same fun k hx => hk.block k (h.lt k hx).2 (hne k hx)
theorem Bx3.keep {W W' : World} {b : Nat} {x y z x' y' z' : Value} (h : Bx3 W b x y z) (hk : Keep W W' x' y' z') (hne : ¬ Has x' y' z' b) : Bx3 W' b x y z := by
  have e := hk.block b h.lt hne
  exact ⟨Nat.lt_of_lt_of_le h.lt hk.size, (World.cell?_of_block e).trans h.c0, (World.cell?_of_block e).trans h.c1, (World.cell?_of_block e).trans h.c2, fun j => (World.frozen?_of_block e).trans (h.fz j)⟩

/-- 'szIntS': what is left of a measure. -/
theorem szIntsP_any (W : World) (v : Value) (zs : List Int) (left : Int) (h : Reads W v zs) (hl : zs.length ≤ maxLen) (h0 : 0 ≤ left) (h1 : left ≤ 1048576) :
    Calls Try.prog 41 #[v, .int .i64 left] W fun e W' => e = .returned (.int .i64 (if (zs.length : Int) ≤ left then left - zs.length else -1)) ∧ W' = W := by
  obtain ⟨a1, c1, rfl⟩ := h.shape
  unfold maxLen at hl
  clear h
  by_cases hle : (zs.length : Int) ≤ left
  · rw [if_pos hle]
    have e : ¬ (left - (zs.length : Int) < 0) := by omega
    go_enter Try.func41, Try.ntmps41
    go_wp2
    go_ret
    exact ⟨rfl, rfl⟩
  · rw [if_neg hle]
    have e : left - (zs.length : Int) < 0 := by omega
    go_enter Try.func41, Try.ntmps41
    go_wp2
    go_ret
    exact ⟨rfl, rfl⟩

/-- What a pair leaves of a measure. -/
def szPr (p : PR) (left : Int) : Int := if (p.st.length : Int) + (p.lf.length : Int) + (p.ln.length : Int) ≤ left then left - (p.st.length : Int) - (p.lf.length : Int) - (p.ln.length : Int) else -1

set_option maxRecDepth 100000 in
set_option maxHeartbeats 1000000 in
theorem szPair_any (W : World) (x y z : Value) (p : PR) (h : Reads3 W x y z p) (h1 : p.st.length ≤ maxLen) (h2 : p.lf.length ≤ maxLen) (h3 : p.ln.length ≤ maxLen) :
    Calls Try.prog 14 #[.agg #[x, y, z], .int .i64 1048576] W fun e W' => e = .returned (.int .i64 (szPr p 1048576)) ∧ Below W.heap.size W W' := by
  obtain ⟨a1, c1, rfl⟩ := h.st.shape
  obtain ⟨a2, c2, rfl⟩ := h.lf.shape
  obtain ⟨a3, c3, rfl⟩ := h.ln.shape
  obtain ⟨st, lf, ln⟩ := p
  have HR : Hid (∀ W1, Below W.heap.size W W1 → Reads3 W1 (.slice a1 st.length c1) (.slice a2 lf.length c2) (.slice a3 ln.length c3) ⟨st, lf, ln⟩) := fun W1 hb => h.below hb
  have H1 : Hid (st.length ≤ maxLen) := h1
  have H2 : Hid (lf.length ≤ maxLen) := h2
  have H3 : Hid (ln.length ≤ maxLen) := h3
  unfold maxLen at h1 h2 h3
  simp only at h1 h2 h3 ⊢
  have HB : Hid (Below W.heap.size W (W.alloc (.cells #[.slice a1 st.length c1, .slice a2 lf.length c2, .slice a3 ln.length c3] 33))) := (Below.refl _ W).alloc (Nat.le_refl _) _
  clear h
  generalize ha : st.length = na at *
  generalize hb : lf.length = nb at *
  generalize hc : ln.length = nc at *
  have HE : Hid (szPr ⟨st, lf, ln⟩ 1048576 = if (na : Int) + (nb : Int) + (nc : Int) ≤ 1048576 then 1048576 - (na : Int) - (nb : Int) - (nc : Int) else -1) := by show _ = _; unfold szPr; rw [ha, hb, hc]
  rw [HE.out]
  have S1 : Hid (∀ W1, Below W.heap.size W W1 → Calls Try.prog 41 #[.slice a1 na c1, .int .i64 1048576] W1 fun e W' => e = .returned (.int .i64 (if (na : Int) ≤ 1048576 then 1048576 - na else -1)) ∧ W' = W1) := fun W1 hW => by
    have := szIntsP_any W1 _ st 1048576 (HR.out W1 hW).st (by rw [ha]; exact H1.out) (by omega) (by omega)
    rw [ha] at this
    exact this
  have S2 : Hid (∀ W1 left, Below W.heap.size W W1 → 0 ≤ left → left ≤ 1048576 → Calls Try.prog 41 #[.slice a2 nb c2, .int .i64 left] W1 fun e W' => e = .returned (.int .i64 (if (nb : Int) ≤ left then left - nb else -1)) ∧ W' = W1) := fun W1 left hW l0 l1 => by
    have := szIntsP_any W1 _ lf left (HR.out W1 hW).lf (by rw [hb]; exact H2.out) l0 l1
    rw [hb] at this
    exact this
  have S3 : Hid (∀ W1 left, Below W.heap.size W W1 → 0 ≤ left → left ≤ 1048576 → Calls Try.prog 42 #[.slice a3 nc c3, .int .i64 left] W1 fun e W' => e = .returned (.int .i64 (if (nc : Int) ≤ left then left - nc else -1)) ∧ W' = W1) := fun W1 left hW l0 l1 => by
    have := szHellos_any W1 _ ln left (HR.out W1 hW).ln (by rw [hc]; exact H3.out) l0 l1
    rw [hc] at this
    exact this
  clear HE HR ha hb hc H1 H2 H3
  by_cases k1 : (na : Int) ≤ 1048576
  · by_cases k2 : (nb : Int) ≤ 1048576 - (na : Int)
    · by_cases k3 : (nc : Int) ≤ 1048576 - (na : Int) - (nb : Int)
      · rw [if_pos (by omega)]
        have e1 : ¬ (1048576 - (na : Int) < 0) := by omega
        have e2 : ¬ (1048576 - (na : Int) - (nb : Int) < 0) := by omega
        have e3 : ¬ (1048576 - (na : Int) - (nb : Int) - (nc : Int) < 0) := by omega
        go_enter Try.func14, Try.ntmps14
        go_wp2_with fail
        refine (S1.out _ HB.out).mono ?_
        rintro e w1 ⟨rfl, rfl⟩
        rw [if_pos k1]
        go_wp2_with fail
        refine (S2.out _ _ HB.out (by omega) (by omega)).mono ?_
        rintro e w1 ⟨rfl, rfl⟩
        rw [if_pos k2]
        go_wp2_with fail
        refine (S3.out _ _ HB.out (by omega) (by omega)).mono ?_
        rintro e w1 ⟨rfl, rfl⟩
        rw [if_pos k3]
        go_wp2
        go_ret
        exact ⟨rfl, HB.out⟩
      · rw [if_neg (by omega)]
        have e1 : ¬ (1048576 - (na : Int) < 0) := by omega
        have e2 : ¬ (1048576 - (na : Int) - (nb : Int) < 0) := by omega
        go_enter Try.func14, Try.ntmps14
        go_wp2_with fail
        refine (S1.out _ HB.out).mono ?_
        rintro e w1 ⟨rfl, rfl⟩
        rw [if_pos k1]
        go_wp2_with fail
        refine (S2.out _ _ HB.out (by omega) (by omega)).mono ?_
        rintro e w1 ⟨rfl, rfl⟩
        rw [if_pos k2]
        go_wp2_with fail
        refine (S3.out _ _ HB.out (by omega) (by omega)).mono ?_
        rintro e w1 ⟨rfl, rfl⟩
        rw [if_neg (Int.not_le.2 k3)]
        go_wp2
        go_ret
        exact ⟨rfl, HB.out⟩
    · rw [if_neg (by omega)]
      have e1 : ¬ (1048576 - (na : Int) < 0) := by omega
      go_enter Try.func14, Try.ntmps14
      go_wp2_with fail
      refine (S1.out _ HB.out).mono ?_
      rintro e w1 ⟨rfl, rfl⟩
      rw [if_pos k1]
      go_wp2_with fail
      refine (S2.out _ _ HB.out (by omega) (by omega)).mono ?_
      rintro e w1 ⟨rfl, rfl⟩
      rw [if_neg (Int.not_le.2 k2)]
      go_wp2
      go_ret
      exact ⟨rfl, HB.out⟩
  · rw [if_neg (by omega)]
    go_enter Try.func14, Try.ntmps14
    go_wp2_with fail
    refine (S1.out _ HB.out).mono ?_
    rintro e w1 ⟨rfl, rfl⟩
    rw [if_neg (Int.not_le.2 k1)]
    go_wp2
    go_ret
    exact ⟨rfl, HB.out⟩

theorem szPr_fit (p : PR) (h : ¬ szPr p 1048576 < 0) : p.st.length ≤ 1048576 ∧ p.lf.length ≤ 1048576 ∧ p.ln.length ≤ 1048576 := by
  unfold szPr at h
  by_cases hle : (p.st.length : Int) + (p.lf.length : Int) + (p.ln.length : Int) ≤ 1048576
  · exact ⟨by omega, by omega, by omega⟩
  · rw [if_neg hle] at h; omega
end Go.Proofs.Ytchddjidjfpehat
