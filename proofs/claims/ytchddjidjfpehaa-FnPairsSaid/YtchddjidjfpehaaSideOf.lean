/-
  'sideOf' and 'setSide'.
-/
import Derived.Test.YtchddjidjfpehaaJh
namespace Go.Proofs.Ytchddjidjfpehaa
open Go.RowKit

set_option maxRecDepth 100000 in
set_option maxHeartbeats 2000000 in
theorem sideOf_any (W : World) (x y z : Value) (p : PR) (k : Nat) (h : Reads3 W x y z p) (h1 : k < p.st.length) (h2 : k < p.lf.length) :
    Calls Try.prog 58 #[.agg #[x, y, z], .int .i64 (k : Int)] W fun e W' => e = .returned (.agg #[.int .i64 p.st[k], .int .i64 p.lf[k]]) ∧ Below W.heap.size W W' := by
  obtain ⟨a1, c1, rfl, hc1⟩ := h.st
  obtain ⟨a2, c2, rfl, hc2⟩ := h.lf
  obtain ⟨a3, c3, rfl⟩ := h.ln.shape
  obtain ⟨g1, o1, rfl, hg1, hc1⟩ := hc1.resolve_left (fun e => by rw [e] at h1; simp at h1)
  obtain ⟨g2, o2, rfl, hg2, hc2⟩ := hc2.resolve_left (fun e => by rw [e] at h2; simp at h2)
  have q1 := hc1 k h1
  have q2 := hc2 k h2
  generalize p.st[k] = s at *
  generalize p.lf[k] = l at *
  have h1' : (k : Int) < (p.st.length : Int) := by omega
  have h2' : (k : Int) < (p.lf.length : Int) := by omega
  have HB : Hid (Below W.heap.size W ((W.alloc (.cells #[.slice (some ⟨g1, o1, none⟩) p.st.length c1, .slice (some ⟨g2, o2, none⟩) p.lf.length c2, .slice a3 p.ln.length c3] 40)).alloc (.cells #[.int .i64 0, .int .i64 0] 98))) := ((Below.refl _ W).alloc (Nat.le_refl _) _).alloc (by simp) _
  clear h hc1 hc2
  go_enter Try.func58, Try.ntmps58
  go_wp2
  go_region
  all_goals
    go_wp2
    refine bodyPost_ret (v := .agg #[.int .i64 s, .int .i64 l]) (by simp [results, Try.results58, go_sem]) rfl ⟨rfl, ?_⟩
    exact (((Below.refl _ W).alloc (Nat.le_refl _) _).alloc (by simp) _).drew

/-- The pair's two lists with a side set anew. -/
def putSide (p : PR) (k : Nat) (s l : Int) : PR := ⟨p.st.set k s, p.lf.set k l, p.ln⟩

set_option maxRecDepth 100000 in
set_option maxHeartbeats 2000000 in
theorem setSide_any (W : World) (B : Nat) (x y z : Value) (p : PR) (k : Nat) (s l : Int) (h : Own3 W B x y z p) (hB : B ≤ W.heap.size) (h1 : k < p.st.length) (h2 : k < p.lf.length) :
    Calls Try.prog 88 #[.agg #[x, y, z], .int .i64 (k : Int), .agg #[.int .i64 s, .int .i64 l]] W fun e W' => (∃ v, e = .returned v) ∧ Own3 W' B x y z (putSide p k s l) ∧ Below B W W' ∧ W.heap.size ≤ W'.heap.size ∧ ∀ b, b < W.heap.size → x.ownBlock ≠ some b → y.ownBlock ≠ some b → W'.heap[b]? = W.heap[b]? := by
  obtain ⟨a1, c1, rfl, hc1⟩ := h.st.form
  obtain ⟨a2, c2, rfl, hc2⟩ := h.lf.form
  obtain ⟨a3, c3, rfl⟩ := h.ln.shape
  obtain ⟨g1, rfl, hB1, hg1, hcell1, hfz1⟩ := hc1.resolve_left (fun e => by rw [e] at h1; simp at h1)
  obtain ⟨g2, rfl, hB2, hg2, hcell2, hfz2⟩ := hc2.resolve_left (fun e => by rw [e] at h2; simp at h2)
  have q1 := hcell1 k h1
  have q2 := hcell2 k h2
  have z1 := hfz1 k
  have z2 := hfz2 k
  have hne : g1 ≠ g2 := fun e => h.apart g1 rfl (by rw [e]; rfl)
  have h1' : (k : Int) < (p.st.length : Int) := by omega
  have h2' : (k : Int) < (p.lf.length : Int) := by omega
  generalize p.st[k] = s0 at *
  generalize p.lf[k] = l0 at *
  have HO : Hid (Own3 W B (.slice (some ⟨g1, 0, none⟩) p.st.length c1) (.slice (some ⟨g2, 0, none⟩) p.lf.length c2) (.slice a3 p.ln.length c3) p) := h
  clear h hc1 hc2 hcell1 hcell2 hfz1 hfz2
  go_enter Try.func88, Try.ntmps88
  have G1 : W.grownBy (W.setCell ⟨g1, k, none⟩ (.int .i64 s)) (some g1) := (World.ownsRow.stored HO.out.st k (.int .i64 s)).2
  have L1 : Own (W.setCell ⟨g1, k, none⟩ (.int .i64 s)) B (.slice (some ⟨g2, 0, none⟩) p.lf.length c2) p.lf := HO.out.lf.grow G1 (fun j hj => by rw [Option.some.injEq] at hj; subst hj; exact HO.out.apart _ rfl)
  have G2 : (W.setCell ⟨g1, k, none⟩ (.int .i64 s)).grownBy ((W.setCell ⟨g1, k, none⟩ (.int .i64 s)).setCell ⟨g2, k, none⟩ (.int .i64 l)) (some g2) := (World.ownsRow.stored L1 k (.int .i64 l)).2
  have S2 : Own ((W.setCell ⟨g1, k, none⟩ (.int .i64 s)).setCell ⟨g2, k, none⟩ (.int .i64 l)) B (.slice (some ⟨g1, 0, none⟩) p.st.length c1) (p.st.set k s) := by
    have := (HO.out.st.set k s).grow G2 (fun j hj e => by rw [Option.some.injEq] at hj; subst hj; exact HO.out.apart _ e rfl)
    exact this
  have L2 : Own ((W.setCell ⟨g1, k, none⟩ (.int .i64 s)).setCell ⟨g2, k, none⟩ (.int .i64 l)) B (.slice (some ⟨g2, 0, none⟩) p.lf.length c2) (p.lf.set k l) := L1.set k l
  have N2 : OwnH ((W.setCell ⟨g1, k, none⟩ (.int .i64 s)).setCell ⟨g2, k, none⟩ (.int .i64 l)) B (.slice a3 p.ln.length c3) p.ln :=
    (HO.out.ln.grow G1 (fun j hj e => by rw [Option.some.injEq] at hj; subst hj; exact hello_apart HO.out.ln HO.out.st _ e rfl)).grow G2 (fun j hj e => by rw [Option.some.injEq] at hj; subst hj; exact hello_apart HO.out.ln HO.out.lf _ e rfl)
  have HF : Hid (Own3 ((W.setCell ⟨g1, k, none⟩ (.int .i64 s)).setCell ⟨g2, k, none⟩ (.int .i64 l)) B (.slice (some ⟨g1, 0, none⟩) p.st.length c1) (.slice (some ⟨g2, 0, none⟩) p.lf.length c2) (.slice a3 p.ln.length c3) (putSide p k s l)) := ⟨S2, L2, N2, HO.out.apart⟩
  clear G1 G2 L1 S2 L2 N2
  go_wp2
  go_region
  all_goals
    refine bodyPost_end (v := .tuple #[]) (by simp [results, Try.results88]) rfl ⟨⟨_, rfl⟩, ?_, ?_, ?_, ?_⟩
    · exact (HF.out.below ((Below.refl _ _).alloc (Nat.le_refl _) _)).below (((Below.refl _ _).alloc (Nat.le_refl _) _).drew)
    · exact (((((Below.refl _ W).setCell hB1 _).setCell hB2 _).alloc (by simpa [World.setCell] using hB) _).alloc (by simp [World.setCell]; omega) _).drew
    · simp [World.setCell]; omega
    · intro b hb e1 e2
      have n1 : b ≠ g1 := fun e => e1 (by rw [e]; rfl)
      have n2 : b ≠ g2 := fun e => e2 (by rw [e]; rfl)
      refine (Below.heap_alloc _ _ b (by simp [World.setCell]; omega)).trans ((Below.heap_alloc _ _ b (by simp [World.setCell]; omega)).trans ?_)
      exact (Below.heap_setCell _ _ _ _ n2).trans (Below.heap_setCell _ _ _ _ n1)
end Go.Proofs.Ytchddjidjfpehaa
