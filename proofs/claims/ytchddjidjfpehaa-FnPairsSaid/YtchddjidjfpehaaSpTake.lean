/-
  'l3Step' of the model, a step's kind at a time.
-/
import Derived.Test.YtchddjidjfpehaaSpStep0
import Derived.Test.YtchddjidjfpehaaGoodSpec
import Derived.Test.YtchddjidjfpehaaJa
import Derived.Test.YtchddjidjfpehaaSpCut
import Derived.Test.YtchddjidjfpehaaNextSt
namespace Go.Proofs.Ytchddjidjfpehaa
open Go.RowKit
set_option linter.unusedVariables false

theorem own_cells {w : World} {B r c : Nat} {s0 s1 : Int} (h : Own w B (.slice (some ⟨r, 0, none⟩) 2 c) [s0, s1]) : w.cell? ⟨r, 0, none⟩ = some (.int .i64 s0) ∧ w.cell? ⟨r, 1, none⟩ = some (.int .i64 s1) ∧ w.frozen? ⟨r, 0, none⟩ = false ∧ w.frozen? ⟨r, 1, none⟩ = false := by
  have e0 := World.ownsRow.cellAt (n := 2) h 0 (by omega)
  have e1 := World.ownsRow.cellAt (n := 2) h 1 (by omega)
  exact ⟨by simpa using e0, by simpa using e1, World.ownsRow.frozenAt (n := 2) h 0, World.ownsRow.frozenAt (n := 2) h 1⟩

set_option maxRecDepth 100000 in
set_option maxHeartbeats 4000000 in
theorem sp_take_0_a (W : World) (B g r1 r2 c1 c2 k : Nat) (s0 s1 l0 l1 : Int) (ln : List HD) (q : HD) (h : Own3 W B (.slice (some ⟨r1, 0, none⟩) 2 c1) (.slice (some ⟨r2, 0, none⟩) 2 c2) (.slice (some ⟨g, 0, none⟩) (k + 1) (k + 1)) ⟨[s0, s1], [l0, l1], ln⟩) (hB : B ≤ W.heap.size) (hl : ln.length ≤ 12) (hn : ln.length = k + 1) (hk : k < ln.length) (hq : ln[k] = q) (hf : q.f = 0) (g0 : stateB s0 = true) (g1 : stateB s1 = true) :
    Calls Try.prog 56 #[.agg #[.slice (some ⟨r1, 0, none⟩) 2 c1, .slice (some ⟨r2, 0, none⟩) 2 c2, .slice (some ⟨g, 0, none⟩) (k + 1) (k + 1)], .agg #[.int .i64 2, .int .i64 (k : Int)]] W (StpPost W B (.slice (some ⟨r1, 0, none⟩) 2 c1) (.slice (some ⟨r2, 0, none⟩) 2 c2) (.slice (some ⟨g, 0, none⟩) (k + 1) (k + 1)) ⟨[s0, s1].set 1 (heardS q.h), [l0, l1].set 1 3, ln.eraseIdx k⟩ true) := by
  obtain ⟨qf, qh⟩ := q
  have hf : qf = 0 := hf
  subst hf
  simp only at hq ⊢
  have N1 : Hid (nextS s1 qh = heardS qh) := nextS_good s1 qh g1
  have G1 : Hid (stateB s1 = true) := g1
  have HN : Hid (ln.length = (k + 1)) := hn
  have HT : Hid (Stp W B (.slice (some ⟨r1, 0, none⟩) 2 c1) (.slice (some ⟨r2, 0, none⟩) 2 c2) (.slice (some ⟨g, 0, none⟩) (k + 1) (k + 1)) (.slice (some ⟨r1, 0, none⟩) 2 c1) (.slice (some ⟨r2, 0, none⟩) 2 c2) (.slice (some ⟨g, 0, none⟩) (k + 1) (k + 1)) 2 (k : Int) ⟨[s0, s1], [l0, l1], ln⟩ (((W.alloc (.cells #[.slice (some ⟨r1, 0, none⟩) 2 c1, .slice (some ⟨r2, 0, none⟩) 2 c2, .slice (some ⟨g, 0, none⟩) (k + 1) (k + 1)] 40)).alloc (.cells #[.int .i64 2, .int .i64 (k : Int)] 53)).alloc (.cells #[.slice none 0 0, .slice none 0 0, .slice none 0 0] 40))) := Stp.start 2 (k : Int) h hB
  obtain ⟨hq0, hq1⟩ := cellsH_get ln k hk
  rw [hq] at hq0 hq1
  have k0 : ((((W.alloc (.cells #[.slice (some ⟨r1, 0, none⟩) 2 c1, .slice (some ⟨r2, 0, none⟩) 2 c2, .slice (some ⟨g, 0, none⟩) (k + 1) (k + 1)] 40)).alloc (.cells #[.int .i64 2, .int .i64 (k : Int)] 53)).alloc (.cells #[.slice none 0 0, .slice none 0 0, .slice none 0 0] 40))).cell? ⟨g, k * 2, none⟩ = some (.int .i64 0) := (own_cellH HT.out.own.ln HN.out _ (by omega)).trans hq0
  have k1 : ((((W.alloc (.cells #[.slice (some ⟨r1, 0, none⟩) 2 c1, .slice (some ⟨r2, 0, none⟩) 2 c2, .slice (some ⟨g, 0, none⟩) (k + 1) (k + 1)] 40)).alloc (.cells #[.int .i64 2, .int .i64 (k : Int)] 53)).alloc (.cells #[.slice none 0 0, .slice none 0 0, .slice none 0 0] 40))).cell? ⟨g, k * 2 + 1, none⟩ = some (.bool qh) := (own_cellH HT.out.own.ln HN.out _ (by omega)).trans hq1
  clear hq0 hq1
  have HLT : Hid (∀ j, Has (.slice (some ⟨r1, 0, none⟩) 2 c1) (.slice (some ⟨r2, 0, none⟩) 2 c2) (.slice (some ⟨g, 0, none⟩) (k + 1) (k + 1)) j → j < W.heap.size) := fun j hj => (h.lt j hj).2
  have HE : Hid (ln.take k ++ ln.drop (k + 1) = ln.eraseIdx k) := erase_cat ln k
  have HTL : Hid ((ln.take k).length = k ∧ (ln.drop (k + 1)).length = ln.length - (k + 1)) := ⟨by simp; omega, by simp⟩
  have HA : Hid (Stp W B (.slice (some ⟨r1, 0, none⟩) 2 c1) (.slice (some ⟨r2, 0, none⟩) 2 c2) (.slice (some ⟨g, 0, none⟩) (k + 1) (k + 1)) (.slice (some ⟨r1, 0, none⟩) 2 c1) (.slice (some ⟨r2, 0, none⟩) 2 c2) (.slice (some ⟨g, 0, none⟩) (k + 1) (k + 1)) 2 (k : Int) ⟨[s0, s1], [l0, l1], ln⟩ (((((W.alloc (.cells #[.slice (some ⟨r1, 0, none⟩) 2 c1, .slice (some ⟨r2, 0, none⟩) 2 c2, .slice (some ⟨g, 0, none⟩) (k + 1) (k + 1)] 40)).alloc (.cells #[.int .i64 2, .int .i64 (k : Int)] 53)).alloc (.cells #[.slice none 0 0, .slice none 0 0, .slice none 0 0] 40)).alloc (.cells #[.int .i64 0, .bool qh] 61)).alloc (.cells #[] 61))) := (HT.out.step ((Below.refl _ _).alloc (Nat.le_refl _) _)).step ((Below.refl _ _).alloc (Nat.le_refl _) _)
  have HHB : Hid (Bx2 (((((W.alloc (.cells #[.slice (some ⟨r1, 0, none⟩) 2 c1, .slice (some ⟨r2, 0, none⟩) 2 c2, .slice (some ⟨g, 0, none⟩) (k + 1) (k + 1)] 40)).alloc (.cells #[.int .i64 2, .int .i64 (k : Int)] 53)).alloc (.cells #[.slice none 0 0, .slice none 0 0, .slice none 0 0] 40)).alloc (.cells #[.int .i64 0, .bool qh] 61)).alloc (.cells #[] 61)) (W.heap.size + 1 + 1 + 1) (.int .i64 0) (.bool qh)) := by
    have := (Bx2.new (((W.alloc (.cells #[.slice (some ⟨r1, 0, none⟩) 2 c1, .slice (some ⟨r2, 0, none⟩) 2 c2, .slice (some ⟨g, 0, none⟩) (k + 1) (k + 1)] 40)).alloc (.cells #[.int .i64 2, .int .i64 (k : Int)] 53)).alloc (.cells #[.slice none 0 0, .slice none 0 0, .slice none 0 0] 40)) (.int .i64 0) (.bool qh) 61).below ((Below.refl _ _).alloc (Nat.le_refl _) (.cells #[] 61))
    exact (show Bx2 _ _ _ _ by simpa using this)
  have HEM : Hid (Emp 61 (((((W.alloc (.cells #[.slice (some ⟨r1, 0, none⟩) 2 c1, .slice (some ⟨r2, 0, none⟩) 2 c2, .slice (some ⟨g, 0, none⟩) (k + 1) (k + 1)] 40)).alloc (.cells #[.int .i64 2, .int .i64 (k : Int)] 53)).alloc (.cells #[.slice none 0 0, .slice none 0 0, .slice none 0 0] 40)).alloc (.cells #[.int .i64 0, .bool qh] 61)).alloc (.cells #[] 61)) (W.heap.size + 1 + 1 + 1 + 1)) := emp_new (by simp)
  have HZ5 : Hid (((((((W.alloc (.cells #[.slice (some ⟨r1, 0, none⟩) 2 c1, .slice (some ⟨r2, 0, none⟩) 2 c2, .slice (some ⟨g, 0, none⟩) (k + 1) (k + 1)] 40)).alloc (.cells #[.int .i64 2, .int .i64 (k : Int)] 53)).alloc (.cells #[.slice none 0 0, .slice none 0 0, .slice none 0 0] 40)).alloc (.cells #[.int .i64 0, .bool qh] 61)).alloc (.cells #[] 61))).heap.size = W.heap.size + 1 + 1 + 1 + 1 + 1) := by show _ = _; simp
  have C1 : Hid (∀ ty, ∃ v' w', (Builtin.append_ #[38, 38] ty #[.slice (some ⟨W.heap.size + 1 + 1 + 1 + 1, 0, none⟩) 0 0, .slice (some ⟨g, 0, none⟩) k (k + 1)]).run Try.prog (((((W.alloc (.cells #[.slice (some ⟨r1, 0, none⟩) 2 c1, .slice (some ⟨r2, 0, none⟩) 2 c2, .slice (some ⟨g, 0, none⟩) (k + 1) (k + 1)] 40)).alloc (.cells #[.int .i64 2, .int .i64 (k : Int)] 53)).alloc (.cells #[.slice none 0 0, .slice none 0 0, .slice none 0 0] 40)).alloc (.cells #[.int .i64 0, .bool qh] 61)).alloc (.cells #[] 61)) = .ok v' w' ∧ GrewH (((((W.alloc (.cells #[.slice (some ⟨r1, 0, none⟩) 2 c1, .slice (some ⟨r2, 0, none⟩) 2 c2, .slice (some ⟨g, 0, none⟩) (k + 1) (k + 1)] 40)).alloc (.cells #[.int .i64 2, .int .i64 (k : Int)] 53)).alloc (.cells #[.slice none 0 0, .slice none 0 0, .slice none 0 0] 40)).alloc (.cells #[.int .i64 0, .bool qh] 61)).alloc (.cells #[] 61)) (W.heap.size + 1 + 1 + 1 + 1) (.slice (some ⟨W.heap.size + 1 + 1 + 1 + 1, 0, none⟩) 0 0) (ln.take k) v' w') := fun ty =>
    run_catH _ _ _ [] (HEM.out.hellos (Nat.le_refl _)) _ (ln.take k) (source_take2 HA.out.own.ln HN.out k (k + 1) (by omega)) (by have := HTL.out.1; simp; omega) (by rw [HZ5.out]; omega) ty
  obtain ⟨ln', hln'⟩ : ∃ ln', ln' = ln.eraseIdx k := ⟨_, rfl⟩
  have C2 : Hid (∀ w v, Own3 w B (.slice (some ⟨r1, 0, none⟩) 2 c1) (.slice (some ⟨r2, 0, none⟩) 2 c2) (.slice (some ⟨g, 0, none⟩) (k + 1) (k + 1)) ⟨[s0, s1], [l0, l1], ln⟩ → OwnH w (W.heap.size + 1 + 1 + 1 + 1) v (ln.take k) → W.heap.size + 1 + 1 + 1 + 1 ≤ w.heap.size → ∀ ty, ∃ v' w', (Builtin.append_ #[38, 38] ty #[v, (.slice (some ⟨g, 0, none⟩) 0 0)]).run Try.prog w = .ok v' w' ∧ GrewH w (W.heap.size + 1 + 1 + 1 + 1) v ln' v' w') := fun w v ho hv hz ty => by
    have hsrc : Source w (.slice (some ⟨g, 0, none⟩) 0 0) (ln.drop (k + 1)).length (cellsH (ln.drop (k + 1))) := by
      have hd : ln.drop (k + 1) = [] := List.drop_eq_nil_of_le (by have := HN.out; omega)
      rw [hd]
      exact source_none _ _
    have := run_catH w _ v (ln.take k) hv _ (ln.drop (k + 1)) hsrc (by have := HTL.out; omega) hz ty
    rw [hln', ← HE.out]
    exact this
  rw [← hln']
  clear hln' HE h
  have i0 : (0 : Int) ≤ (k : Int) := by omega
  have i1 : (k : Int) ≤ (((k + 1) : Nat) : Int) := by omega
  have i2 : (k : Int) + 1 ≤ (((k + 1) : Nat) : Int) := by omega
  have i3 : (0 : Int) ≤ (k : Int) + 1 := by omega
  have i5 : (((k + 1) : Nat) : Int) ≤ (((k + 1) : Nat) : Int) := by omega
  have i6 : ¬ (((k + 1) : Nat) : Int) ≤ (k : Int) := by omega
  have i7 : (k : Int) < (((k + 1) : Nat) : Int) := by omega
  have i8 : ¬ (k : Int) < 0 := by omega
  have i9 : k ≤ 1048576 := by omega
  clear hn hk hq
  have i4 : IntKind.i64.wrap ((k : Int) + 1) = (k : Int) + 1 := wrap_succ k i9
  go_enter Try.func56, Try.ntmps56
  go_wp2_with (first
    | (at_builtin; refine list_cat (by rfl) (.tmp 71) (.tmp 76) 38 (by rfl) (.slice (some ⟨W.heap.size + 1 + 1 + 1 + 1, 0, none⟩) 0 0) (.slice (some ⟨g, 0, none⟩) k (k + 1)) (by rfl) (by rfl) _ C1.out ?_; intro v1 w1 hg1; have HS1 : Hid (Stp W B (.slice (some ⟨r1, 0, none⟩) 2 c1) (.slice (some ⟨r2, 0, none⟩) 2 c2) (.slice (some ⟨g, 0, none⟩) (k + 1) (k + 1)) (.slice (some ⟨r1, 0, none⟩) 2 c1) (.slice (some ⟨r2, 0, none⟩) 2 c2) (.slice (some ⟨g, 0, none⟩) (k + 1) (k + 1)) 2 (k : Int) ⟨[s0, s1], [l0, l1], ln⟩ w1) := cut_one HA.out HLT.out hg1 (own_blk _); have HH1 : Hid (Bx2 w1 (W.heap.size + 1 + 1 + 1) (.int .i64 0) (.bool qh)) := cut_box HHB.out hg1 (own_blk _); obtain ⟨p0, p1, p2, p3, pf⟩ := HS1.out.px; obtain ⟨t0, t1, t2, -⟩ := HS1.out.sx; have hz1 : W.heap.size + 1 + 1 + 1 + 1 ≤ w1.heap.size := (by have := hg1.size; have := HZ5.out; omega); have HO1 : Hid (OwnH w1 (W.heap.size + 1 + 1 + 1 + 1) v1 (ln.take k)) := hg1.own; clear hg1)
    | (at_builtin; refine list_cat (by rfl) (.tmp 78) (.tmp 84) 38 (by rfl) v1 (.slice (some ⟨g, 0, none⟩) 0 0) (by rfl) (by rfl) _ (C2.out w1 v1 HS1.out.own HO1.out hz1) ?_; intro v2 w3 hg2; obtain ⟨b4, d4, rfl⟩ := hg2.own.shape; have HS2 : Hid (Stp W B (.slice (some ⟨r1, 0, none⟩) 2 c1) (.slice (some ⟨r2, 0, none⟩) 2 c2) (.slice (some ⟨g, 0, none⟩) (k + 1) (k + 1)) (.slice (some ⟨r1, 0, none⟩) 2 c1) (.slice (some ⟨r2, 0, none⟩) 2 c2) (.slice (some ⟨g, 0, none⟩) (k + 1) (k + 1)) 2 (k : Int) ⟨[s0, s1], [l0, l1], ln⟩ w3) := cut_one HS1.out HLT.out hg2 (fun j hj => (World.ownsRow.lt HO1.out j hj).1); have HH2 : Hid (Bx2 w3 (W.heap.size + 1 + 1 + 1) (.int .i64 0) (.bool qh)) := cut_box HH1.out hg2 (fun j hj => (World.ownsRow.lt HO1.out j hj).1); have HF : Hid (Stp W B (.slice (some ⟨r1, 0, none⟩) 2 c1) (.slice (some ⟨r2, 0, none⟩) 2 c2) (.slice (some ⟨g, 0, none⟩) (k + 1) (k + 1)) (.slice (some ⟨r1, 0, none⟩) 2 c1) (.slice (some ⟨r2, 0, none⟩) 2 c2) (.slice b4 ln'.length d4) 2 (k : Int) ⟨[s0, s1], [l0, l1], ln'⟩ (w3.setCell ⟨W.heap.size, 2, none⟩ (.slice b4 ln'.length d4))) := cut_line HS2.out hg2.own; clear p0 p1 p2 p3 pf t0 t1 t2; obtain ⟨p0, p1, p2, p3, pf⟩ := HS2.out.px; obtain ⟨m0, m1, m2, m3, mf⟩ := HF.out.px; obtain ⟨t0, t1, t2, -⟩ := HF.out.sx; obtain ⟨y0, y1, y2, y3, yf⟩ := HF.out.rx; have HHF : Hid (Bx2 (w3.setCell ⟨W.heap.size, 2, none⟩ (.slice b4 ln'.length d4)) (W.heap.size + 1 + 1 + 1) (.int .i64 0) (.bool qh)) := HH2.out.same (Below.heap_setCell _ _ _ _ (by show _ ≠ _; simp; omega)) (Nat.le_of_eq (setCell_size _ _ _).symm); have b0 := HHF.out.c0; have b1 := HHF.out.c1; clear hg2))
  generalize hw : (w3.setCell ⟨W.heap.size, 2, none⟩ (.slice b4 ln'.length d4)) = w5 at *
  clear hw
  have HDr : Stp W B (.slice (some ⟨r1, 0, none⟩) 2 c1) (.slice (some ⟨r2, 0, none⟩) 2 c2) (.slice (some ⟨g, 0, none⟩) (k + 1) (k + 1)) (.slice (some ⟨r1, 0, none⟩) 2 c1) (.slice (some ⟨r2, 0, none⟩) 2 c2) (.slice b4 ln'.length d4) 2 (k : Int) ⟨[s0, s1], [l0, l1], ln'⟩ w5.drew := HF.out.drew
  have HHd : Bx2 w5.drew (W.heap.size + 1 + 1 + 1) (.int .i64 0) (.bool qh) := HHF.out.drew
  obtain ⟨c0, c1', z0, z1⟩ := own_cells HDr.own.st
  go_region_held3 (fun w' => w'.cell? ⟨W.heap.size, 0, none⟩ = some (.slice (some ⟨r1, 0, none⟩) 2 c1) ∧ w'.cell? ⟨r1, 1, none⟩ = some (.int .i64 s1) ∧ w'.cell? ⟨W.heap.size + 1 + 1 + 1, 1, none⟩ = some (.bool qh))
    (first | with_reducible exact ⟨HDr.px.c0, c1', HHd.c1⟩ | fail)
    (first
      | (refine step_call (by rfl) 28 #[.int .i64 s1, .bool qh] (by simp [go_sem]) ((specNext_any s1 qh _).mono ?_); rintro e w6 ⟨rfl, rfl⟩; refine ⟨_, rfl, ?_⟩; rw [N1.out, G1.out])
      | fail)
  all_goals
    have HD7 : Hid (Stp W B (.slice (some ⟨r1, 0, none⟩) 2 c1) (.slice (some ⟨r2, 0, none⟩) 2 c2) (.slice (some ⟨g, 0, none⟩) (k + 1) (k + 1)) (.slice (some ⟨r1, 0, none⟩) 2 c1) (.slice (some ⟨r2, 0, none⟩) 2 c2) (.slice b4 ln'.length d4) 2 (k : Int) ⟨[s0, s1], [l0, l1], ln'⟩ w5.drew) := HDr
    clear HDr HHd c0 c1' z0 z1 m0 m1 m2 m3 mf t0 t1 t2 y0 y1 y2 y3 yf b0 b1 HHF HF
    generalize hw7 : w5.drew = w7 at *
    clear hw7
    obtain ⟨c0, c1', z0, z1⟩ := own_cells HD7.out.own.st
    have HE1 : Hid (Stp W B (.slice (some ⟨r1, 0, none⟩) 2 c1) (.slice (some ⟨r2, 0, none⟩) 2 c2) (.slice (some ⟨g, 0, none⟩) (k + 1) (k + 1)) (.slice (some ⟨r1, 0, none⟩) 2 c1) (.slice (some ⟨r2, 0, none⟩) 2 c2) (.slice b4 ln'.length d4) 2 (k : Int) ⟨[s0, s1].set 1 (heardS qh), [l0, l1], ln'⟩ (w7.setCell ⟨r1, 1, none⟩ (.int .i64 (heardS qh)))) := HD7.out.setSt 1 (heardS qh) rfl
    have HE2 : Hid (Stp W B (.slice (some ⟨r1, 0, none⟩) 2 c1) (.slice (some ⟨r2, 0, none⟩) 2 c2) (.slice (some ⟨g, 0, none⟩) (k + 1) (k + 1)) (.slice (some ⟨r1, 0, none⟩) 2 c1) (.slice (some ⟨r2, 0, none⟩) 2 c2) (.slice b4 ln'.length d4) 2 (k : Int) ⟨[s0, s1].set 1 (heardS qh), [l0, l1].set 1 3, ln'⟩ ((w7.setCell ⟨r1, 1, none⟩ (.int .i64 (heardS qh))).setCell ⟨r2, 1, none⟩ (.int .i64 3))) := HE1.out.setLf 1 3 rfl
    obtain ⟨e0, e1, x0, x1⟩ := own_cells HD7.out.own.lf
    obtain ⟨f0, f1, u0, u1⟩ := own_cells HE1.out.own.lf
    obtain ⟨p0, p1, p2, p3, pf⟩ := HD7.out.px
    obtain ⟨v0, v1', v2, v3, vf⟩ := HE1.out.px
    obtain ⟨m0, m1, m2, m3, mf⟩ := HE2.out.px
    obtain ⟨y0, y1, y2, y3, yf⟩ := HE2.out.rx
    go_wp2
    refine bodyPost_ret (v := .tuple #[.agg #[.slice (some ⟨r1, 0, none⟩) 2 c1, .slice (some ⟨r2, 0, none⟩) 2 c2, .slice b4 ln'.length d4], .bool true]) (by simp [results, Try.results56, go_sem, y1, y2, y3]) rfl ?_
    exact HE2.out.fin true

set_option maxRecDepth 100000 in
set_option maxHeartbeats 4000000 in
theorem sp_take_0_b (W : World) (B g r1 r2 c1 c2 k n cap : Nat) (s0 s1 l0 l1 : Int) (ln : List HD) (q : HD) (h : Own3 W B (.slice (some ⟨r1, 0, none⟩) 2 c1) (.slice (some ⟨r2, 0, none⟩) 2 c2) (.slice (some ⟨g, 0, none⟩) n cap) ⟨[s0, s1], [l0, l1], ln⟩) (hB : B ≤ W.heap.size) (hl : ln.length ≤ 12) (hn : ln.length = n) (hnc : n ≤ cap) (hne : ¬ cap = k + 1) (hk : k < ln.length) (hq : ln[k] = q) (hf : q.f = 0) (g0 : stateB s0 = true) (g1 : stateB s1 = true) :
    Calls Try.prog 56 #[.agg #[.slice (some ⟨r1, 0, none⟩) 2 c1, .slice (some ⟨r2, 0, none⟩) 2 c2, .slice (some ⟨g, 0, none⟩) n cap], .agg #[.int .i64 2, .int .i64 (k : Int)]] W (StpPost W B (.slice (some ⟨r1, 0, none⟩) 2 c1) (.slice (some ⟨r2, 0, none⟩) 2 c2) (.slice (some ⟨g, 0, none⟩) n cap) ⟨[s0, s1].set 1 (heardS q.h), [l0, l1].set 1 3, ln.eraseIdx k⟩ true) := by
  obtain ⟨qf, qh⟩ := q
  have hf : qf = 0 := hf
  subst hf
  simp only at hq ⊢
  have N1 : Hid (nextS s1 qh = heardS qh) := nextS_good s1 qh g1
  have G1 : Hid (stateB s1 = true) := g1
  have HN : Hid (ln.length = n) := hn
  have HT : Hid (Stp W B (.slice (some ⟨r1, 0, none⟩) 2 c1) (.slice (some ⟨r2, 0, none⟩) 2 c2) (.slice (some ⟨g, 0, none⟩) n cap) (.slice (some ⟨r1, 0, none⟩) 2 c1) (.slice (some ⟨r2, 0, none⟩) 2 c2) (.slice (some ⟨g, 0, none⟩) n cap) 2 (k : Int) ⟨[s0, s1], [l0, l1], ln⟩ (((W.alloc (.cells #[.slice (some ⟨r1, 0, none⟩) 2 c1, .slice (some ⟨r2, 0, none⟩) 2 c2, .slice (some ⟨g, 0, none⟩) n cap] 40)).alloc (.cells #[.int .i64 2, .int .i64 (k : Int)] 53)).alloc (.cells #[.slice none 0 0, .slice none 0 0, .slice none 0 0] 40))) := Stp.start 2 (k : Int) h hB
  obtain ⟨hq0, hq1⟩ := cellsH_get ln k hk
  rw [hq] at hq0 hq1
  have k0 : ((((W.alloc (.cells #[.slice (some ⟨r1, 0, none⟩) 2 c1, .slice (some ⟨r2, 0, none⟩) 2 c2, .slice (some ⟨g, 0, none⟩) n cap] 40)).alloc (.cells #[.int .i64 2, .int .i64 (k : Int)] 53)).alloc (.cells #[.slice none 0 0, .slice none 0 0, .slice none 0 0] 40))).cell? ⟨g, k * 2, none⟩ = some (.int .i64 0) := (own_cellH HT.out.own.ln HN.out _ (by omega)).trans hq0
  have k1 : ((((W.alloc (.cells #[.slice (some ⟨r1, 0, none⟩) 2 c1, .slice (some ⟨r2, 0, none⟩) 2 c2, .slice (some ⟨g, 0, none⟩) n cap] 40)).alloc (.cells #[.int .i64 2, .int .i64 (k : Int)] 53)).alloc (.cells #[.slice none 0 0, .slice none 0 0, .slice none 0 0] 40))).cell? ⟨g, k * 2 + 1, none⟩ = some (.bool qh) := (own_cellH HT.out.own.ln HN.out _ (by omega)).trans hq1
  clear hq0 hq1
  have HLT : Hid (∀ j, Has (.slice (some ⟨r1, 0, none⟩) 2 c1) (.slice (some ⟨r2, 0, none⟩) 2 c2) (.slice (some ⟨g, 0, none⟩) n cap) j → j < W.heap.size) := fun j hj => (h.lt j hj).2
  have HE : Hid (ln.take k ++ ln.drop (k + 1) = ln.eraseIdx k) := erase_cat ln k
  have HTL : Hid ((ln.take k).length = k ∧ (ln.drop (k + 1)).length = ln.length - (k + 1)) := ⟨by simp; omega, by simp⟩
  have HA : Hid (Stp W B (.slice (some ⟨r1, 0, none⟩) 2 c1) (.slice (some ⟨r2, 0, none⟩) 2 c2) (.slice (some ⟨g, 0, none⟩) n cap) (.slice (some ⟨r1, 0, none⟩) 2 c1) (.slice (some ⟨r2, 0, none⟩) 2 c2) (.slice (some ⟨g, 0, none⟩) n cap) 2 (k : Int) ⟨[s0, s1], [l0, l1], ln⟩ (((((W.alloc (.cells #[.slice (some ⟨r1, 0, none⟩) 2 c1, .slice (some ⟨r2, 0, none⟩) 2 c2, .slice (some ⟨g, 0, none⟩) n cap] 40)).alloc (.cells #[.int .i64 2, .int .i64 (k : Int)] 53)).alloc (.cells #[.slice none 0 0, .slice none 0 0, .slice none 0 0] 40)).alloc (.cells #[.int .i64 0, .bool qh] 61)).alloc (.cells #[] 61))) := (HT.out.step ((Below.refl _ _).alloc (Nat.le_refl _) _)).step ((Below.refl _ _).alloc (Nat.le_refl _) _)
  have HHB : Hid (Bx2 (((((W.alloc (.cells #[.slice (some ⟨r1, 0, none⟩) 2 c1, .slice (some ⟨r2, 0, none⟩) 2 c2, .slice (some ⟨g, 0, none⟩) n cap] 40)).alloc (.cells #[.int .i64 2, .int .i64 (k : Int)] 53)).alloc (.cells #[.slice none 0 0, .slice none 0 0, .slice none 0 0] 40)).alloc (.cells #[.int .i64 0, .bool qh] 61)).alloc (.cells #[] 61)) (W.heap.size + 1 + 1 + 1) (.int .i64 0) (.bool qh)) := by
    have := (Bx2.new (((W.alloc (.cells #[.slice (some ⟨r1, 0, none⟩) 2 c1, .slice (some ⟨r2, 0, none⟩) 2 c2, .slice (some ⟨g, 0, none⟩) n cap] 40)).alloc (.cells #[.int .i64 2, .int .i64 (k : Int)] 53)).alloc (.cells #[.slice none 0 0, .slice none 0 0, .slice none 0 0] 40)) (.int .i64 0) (.bool qh) 61).below ((Below.refl _ _).alloc (Nat.le_refl _) (.cells #[] 61))
    exact (show Bx2 _ _ _ _ by simpa using this)
  have HEM : Hid (Emp 61 (((((W.alloc (.cells #[.slice (some ⟨r1, 0, none⟩) 2 c1, .slice (some ⟨r2, 0, none⟩) 2 c2, .slice (some ⟨g, 0, none⟩) n cap] 40)).alloc (.cells #[.int .i64 2, .int .i64 (k : Int)] 53)).alloc (.cells #[.slice none 0 0, .slice none 0 0, .slice none 0 0] 40)).alloc (.cells #[.int .i64 0, .bool qh] 61)).alloc (.cells #[] 61)) (W.heap.size + 1 + 1 + 1 + 1)) := emp_new (by simp)
  have HZ5 : Hid (((((((W.alloc (.cells #[.slice (some ⟨r1, 0, none⟩) 2 c1, .slice (some ⟨r2, 0, none⟩) 2 c2, .slice (some ⟨g, 0, none⟩) n cap] 40)).alloc (.cells #[.int .i64 2, .int .i64 (k : Int)] 53)).alloc (.cells #[.slice none 0 0, .slice none 0 0, .slice none 0 0] 40)).alloc (.cells #[.int .i64 0, .bool qh] 61)).alloc (.cells #[] 61))).heap.size = W.heap.size + 1 + 1 + 1 + 1 + 1) := by show _ = _; simp
  have C1 : Hid (∀ ty, ∃ v' w', (Builtin.append_ #[38, 38] ty #[.slice (some ⟨W.heap.size + 1 + 1 + 1 + 1, 0, none⟩) 0 0, .slice (some ⟨g, 0, none⟩) k cap]).run Try.prog (((((W.alloc (.cells #[.slice (some ⟨r1, 0, none⟩) 2 c1, .slice (some ⟨r2, 0, none⟩) 2 c2, .slice (some ⟨g, 0, none⟩) n cap] 40)).alloc (.cells #[.int .i64 2, .int .i64 (k : Int)] 53)).alloc (.cells #[.slice none 0 0, .slice none 0 0, .slice none 0 0] 40)).alloc (.cells #[.int .i64 0, .bool qh] 61)).alloc (.cells #[] 61)) = .ok v' w' ∧ GrewH (((((W.alloc (.cells #[.slice (some ⟨r1, 0, none⟩) 2 c1, .slice (some ⟨r2, 0, none⟩) 2 c2, .slice (some ⟨g, 0, none⟩) n cap] 40)).alloc (.cells #[.int .i64 2, .int .i64 (k : Int)] 53)).alloc (.cells #[.slice none 0 0, .slice none 0 0, .slice none 0 0] 40)).alloc (.cells #[.int .i64 0, .bool qh] 61)).alloc (.cells #[] 61)) (W.heap.size + 1 + 1 + 1 + 1) (.slice (some ⟨W.heap.size + 1 + 1 + 1 + 1, 0, none⟩) 0 0) (ln.take k) v' w') := fun ty =>
    run_catH _ _ _ [] (HEM.out.hellos (Nat.le_refl _)) _ (ln.take k) (source_take2 HA.out.own.ln HN.out k cap (by omega)) (by have := HTL.out.1; simp; omega) (by rw [HZ5.out]; omega) ty
  obtain ⟨ln', hln'⟩ : ∃ ln', ln' = ln.eraseIdx k := ⟨_, rfl⟩
  have C2 : Hid (∀ w v, Own3 w B (.slice (some ⟨r1, 0, none⟩) 2 c1) (.slice (some ⟨r2, 0, none⟩) 2 c2) (.slice (some ⟨g, 0, none⟩) n cap) ⟨[s0, s1], [l0, l1], ln⟩ → OwnH w (W.heap.size + 1 + 1 + 1 + 1) v (ln.take k) → W.heap.size + 1 + 1 + 1 + 1 ≤ w.heap.size → ∀ ty, ∃ v' w', (Builtin.append_ #[38, 38] ty #[v, (.slice (some ⟨g, (k + 1) * 2, none⟩) (n - (k + 1)) (cap - (k + 1)))]).run Try.prog w = .ok v' w' ∧ GrewH w (W.heap.size + 1 + 1 + 1 + 1) v ln' v' w') := fun w v ho hv hz ty => by
    have hsrc : Source w (.slice (some ⟨g, (k + 1) * 2, none⟩) (n - (k + 1)) (cap - (k + 1))) (ln.drop (k + 1)).length (cellsH (ln.drop (k + 1))) := by
      have := HN.out
      subst this
      exact source_drop ho.ln (k + 1) (cap - (k + 1))
    have := run_catH w _ v (ln.take k) hv _ (ln.drop (k + 1)) hsrc (by have := HTL.out; omega) hz ty
    rw [hln', ← HE.out]
    exact this
  rw [← hln']
  clear hln' HE h
  have i0 : (0 : Int) ≤ (k : Int) := by omega
  have i1 : (k : Int) ≤ ((cap : Nat) : Int) := by omega
  have i2 : (k : Int) + 1 ≤ ((n : Nat) : Int) := by omega
  have i3 : (0 : Int) ≤ (k : Int) + 1 := by omega
  have i5 : ((n : Nat) : Int) ≤ ((cap : Nat) : Int) := by omega
  have i6 : ¬ ((n : Nat) : Int) ≤ (k : Int) := by omega
  have i7 : (k : Int) < ((n : Nat) : Int) := by omega
  have i8 : ¬ (k : Int) < 0 := by omega
  have i9 : k ≤ 1048576 := by omega
  clear hn hk hq
  have i4 : IntKind.i64.wrap ((k : Int) + 1) = (k : Int) + 1 := wrap_succ k i9
  go_enter Try.func56, Try.ntmps56
  go_wp2_with (first
    | (at_builtin; refine list_cat (by rfl) (.tmp 71) (.tmp 76) 38 (by rfl) (.slice (some ⟨W.heap.size + 1 + 1 + 1 + 1, 0, none⟩) 0 0) (.slice (some ⟨g, 0, none⟩) k cap) (by rfl) (by rfl) _ C1.out ?_; intro v1 w1 hg1; have HS1 : Hid (Stp W B (.slice (some ⟨r1, 0, none⟩) 2 c1) (.slice (some ⟨r2, 0, none⟩) 2 c2) (.slice (some ⟨g, 0, none⟩) n cap) (.slice (some ⟨r1, 0, none⟩) 2 c1) (.slice (some ⟨r2, 0, none⟩) 2 c2) (.slice (some ⟨g, 0, none⟩) n cap) 2 (k : Int) ⟨[s0, s1], [l0, l1], ln⟩ w1) := cut_one HA.out HLT.out hg1 (own_blk _); have HH1 : Hid (Bx2 w1 (W.heap.size + 1 + 1 + 1) (.int .i64 0) (.bool qh)) := cut_box HHB.out hg1 (own_blk _); obtain ⟨p0, p1, p2, p3, pf⟩ := HS1.out.px; obtain ⟨t0, t1, t2, -⟩ := HS1.out.sx; have hz1 : W.heap.size + 1 + 1 + 1 + 1 ≤ w1.heap.size := (by have := hg1.size; have := HZ5.out; omega); have HO1 : Hid (OwnH w1 (W.heap.size + 1 + 1 + 1 + 1) v1 (ln.take k)) := hg1.own; clear hg1)
    | (at_builtin; refine list_cat (by rfl) (.tmp 78) (.tmp 84) 38 (by rfl) v1 (.slice (some ⟨g, (k + 1) * 2, none⟩) (n - (k + 1)) (cap - (k + 1))) (by rfl) (by rfl) _ (C2.out w1 v1 HS1.out.own HO1.out hz1) ?_; intro v2 w3 hg2; obtain ⟨b4, d4, rfl⟩ := hg2.own.shape; have HS2 : Hid (Stp W B (.slice (some ⟨r1, 0, none⟩) 2 c1) (.slice (some ⟨r2, 0, none⟩) 2 c2) (.slice (some ⟨g, 0, none⟩) n cap) (.slice (some ⟨r1, 0, none⟩) 2 c1) (.slice (some ⟨r2, 0, none⟩) 2 c2) (.slice (some ⟨g, 0, none⟩) n cap) 2 (k : Int) ⟨[s0, s1], [l0, l1], ln⟩ w3) := cut_one HS1.out HLT.out hg2 (fun j hj => (World.ownsRow.lt HO1.out j hj).1); have HH2 : Hid (Bx2 w3 (W.heap.size + 1 + 1 + 1) (.int .i64 0) (.bool qh)) := cut_box HH1.out hg2 (fun j hj => (World.ownsRow.lt HO1.out j hj).1); have HF : Hid (Stp W B (.slice (some ⟨r1, 0, none⟩) 2 c1) (.slice (some ⟨r2, 0, none⟩) 2 c2) (.slice (some ⟨g, 0, none⟩) n cap) (.slice (some ⟨r1, 0, none⟩) 2 c1) (.slice (some ⟨r2, 0, none⟩) 2 c2) (.slice b4 ln'.length d4) 2 (k : Int) ⟨[s0, s1], [l0, l1], ln'⟩ (w3.setCell ⟨W.heap.size, 2, none⟩ (.slice b4 ln'.length d4))) := cut_line HS2.out hg2.own; clear p0 p1 p2 p3 pf t0 t1 t2; obtain ⟨p0, p1, p2, p3, pf⟩ := HS2.out.px; obtain ⟨m0, m1, m2, m3, mf⟩ := HF.out.px; obtain ⟨t0, t1, t2, -⟩ := HF.out.sx; obtain ⟨y0, y1, y2, y3, yf⟩ := HF.out.rx; have HHF : Hid (Bx2 (w3.setCell ⟨W.heap.size, 2, none⟩ (.slice b4 ln'.length d4)) (W.heap.size + 1 + 1 + 1) (.int .i64 0) (.bool qh)) := HH2.out.same (Below.heap_setCell _ _ _ _ (by show _ ≠ _; simp; omega)) (Nat.le_of_eq (setCell_size _ _ _).symm); have b0 := HHF.out.c0; have b1 := HHF.out.c1; clear hg2))
  generalize hw : (w3.setCell ⟨W.heap.size, 2, none⟩ (.slice b4 ln'.length d4)) = w5 at *
  clear hw
  have HDr : Stp W B (.slice (some ⟨r1, 0, none⟩) 2 c1) (.slice (some ⟨r2, 0, none⟩) 2 c2) (.slice (some ⟨g, 0, none⟩) n cap) (.slice (some ⟨r1, 0, none⟩) 2 c1) (.slice (some ⟨r2, 0, none⟩) 2 c2) (.slice b4 ln'.length d4) 2 (k : Int) ⟨[s0, s1], [l0, l1], ln'⟩ w5.drew := HF.out.drew
  have HHd : Bx2 w5.drew (W.heap.size + 1 + 1 + 1) (.int .i64 0) (.bool qh) := HHF.out.drew
  obtain ⟨c0, c1', z0, z1⟩ := own_cells HDr.own.st
  go_region_held3 (fun w' => w'.cell? ⟨W.heap.size, 0, none⟩ = some (.slice (some ⟨r1, 0, none⟩) 2 c1) ∧ w'.cell? ⟨r1, 1, none⟩ = some (.int .i64 s1) ∧ w'.cell? ⟨W.heap.size + 1 + 1 + 1, 1, none⟩ = some (.bool qh))
    (first | with_reducible exact ⟨HDr.px.c0, c1', HHd.c1⟩ | fail)
    (first
      | (refine step_call (by rfl) 28 #[.int .i64 s1, .bool qh] (by simp [go_sem]) ((specNext_any s1 qh _).mono ?_); rintro e w6 ⟨rfl, rfl⟩; refine ⟨_, rfl, ?_⟩; rw [N1.out, G1.out])
      | fail)
  all_goals
    have HD7 : Hid (Stp W B (.slice (some ⟨r1, 0, none⟩) 2 c1) (.slice (some ⟨r2, 0, none⟩) 2 c2) (.slice (some ⟨g, 0, none⟩) n cap) (.slice (some ⟨r1, 0, none⟩) 2 c1) (.slice (some ⟨r2, 0, none⟩) 2 c2) (.slice b4 ln'.length d4) 2 (k : Int) ⟨[s0, s1], [l0, l1], ln'⟩ w5.drew) := HDr
    clear HDr HHd c0 c1' z0 z1 m0 m1 m2 m3 mf t0 t1 t2 y0 y1 y2 y3 yf b0 b1 HHF HF
    generalize hw7 : w5.drew = w7 at *
    clear hw7
    obtain ⟨c0, c1', z0, z1⟩ := own_cells HD7.out.own.st
    have HE1 : Hid (Stp W B (.slice (some ⟨r1, 0, none⟩) 2 c1) (.slice (some ⟨r2, 0, none⟩) 2 c2) (.slice (some ⟨g, 0, none⟩) n cap) (.slice (some ⟨r1, 0, none⟩) 2 c1) (.slice (some ⟨r2, 0, none⟩) 2 c2) (.slice b4 ln'.length d4) 2 (k : Int) ⟨[s0, s1].set 1 (heardS qh), [l0, l1], ln'⟩ (w7.setCell ⟨r1, 1, none⟩ (.int .i64 (heardS qh)))) := HD7.out.setSt 1 (heardS qh) rfl
    have HE2 : Hid (Stp W B (.slice (some ⟨r1, 0, none⟩) 2 c1) (.slice (some ⟨r2, 0, none⟩) 2 c2) (.slice (some ⟨g, 0, none⟩) n cap) (.slice (some ⟨r1, 0, none⟩) 2 c1) (.slice (some ⟨r2, 0, none⟩) 2 c2) (.slice b4 ln'.length d4) 2 (k : Int) ⟨[s0, s1].set 1 (heardS qh), [l0, l1].set 1 3, ln'⟩ ((w7.setCell ⟨r1, 1, none⟩ (.int .i64 (heardS qh))).setCell ⟨r2, 1, none⟩ (.int .i64 3))) := HE1.out.setLf 1 3 rfl
    obtain ⟨e0, e1, x0, x1⟩ := own_cells HD7.out.own.lf
    obtain ⟨f0, f1, u0, u1⟩ := own_cells HE1.out.own.lf
    obtain ⟨p0, p1, p2, p3, pf⟩ := HD7.out.px
    obtain ⟨v0, v1', v2, v3, vf⟩ := HE1.out.px
    obtain ⟨m0, m1, m2, m3, mf⟩ := HE2.out.px
    obtain ⟨y0, y1, y2, y3, yf⟩ := HE2.out.rx
    go_wp2
    refine bodyPost_ret (v := .tuple #[.agg #[.slice (some ⟨r1, 0, none⟩) 2 c1, .slice (some ⟨r2, 0, none⟩) 2 c2, .slice b4 ln'.length d4], .bool true]) (by simp [results, Try.results56, go_sem, y1, y2, y3]) rfl ?_
    exact HE2.out.fin true

set_option maxRecDepth 100000 in
set_option maxHeartbeats 4000000 in
theorem sp_take_1_a (W : World) (B g r1 r2 c1 c2 k : Nat) (s0 s1 l0 l1 : Int) (ln : List HD) (q : HD) (h : Own3 W B (.slice (some ⟨r1, 0, none⟩) 2 c1) (.slice (some ⟨r2, 0, none⟩) 2 c2) (.slice (some ⟨g, 0, none⟩) (k + 1) (k + 1)) ⟨[s0, s1], [l0, l1], ln⟩) (hB : B ≤ W.heap.size) (hl : ln.length ≤ 12) (hn : ln.length = k + 1) (hk : k < ln.length) (hq : ln[k] = q) (hf : q.f = 1) (g0 : stateB s0 = true) (g1 : stateB s1 = true) :
    Calls Try.prog 56 #[.agg #[.slice (some ⟨r1, 0, none⟩) 2 c1, .slice (some ⟨r2, 0, none⟩) 2 c2, .slice (some ⟨g, 0, none⟩) (k + 1) (k + 1)], .agg #[.int .i64 2, .int .i64 (k : Int)]] W (StpPost W B (.slice (some ⟨r1, 0, none⟩) 2 c1) (.slice (some ⟨r2, 0, none⟩) 2 c2) (.slice (some ⟨g, 0, none⟩) (k + 1) (k + 1)) ⟨[s0, s1].set 0 (heardS q.h), [l0, l1].set 0 3, ln.eraseIdx k⟩ true) := by
  obtain ⟨qf, qh⟩ := q
  have hf : qf = 1 := hf
  subst hf
  simp only at hq ⊢
  have N1 : Hid (nextS s0 qh = heardS qh) := nextS_good s0 qh g0
  have G1 : Hid (stateB s0 = true) := g0
  have HN : Hid (ln.length = (k + 1)) := hn
  have HT : Hid (Stp W B (.slice (some ⟨r1, 0, none⟩) 2 c1) (.slice (some ⟨r2, 0, none⟩) 2 c2) (.slice (some ⟨g, 0, none⟩) (k + 1) (k + 1)) (.slice (some ⟨r1, 0, none⟩) 2 c1) (.slice (some ⟨r2, 0, none⟩) 2 c2) (.slice (some ⟨g, 0, none⟩) (k + 1) (k + 1)) 2 (k : Int) ⟨[s0, s1], [l0, l1], ln⟩ (((W.alloc (.cells #[.slice (some ⟨r1, 0, none⟩) 2 c1, .slice (some ⟨r2, 0, none⟩) 2 c2, .slice (some ⟨g, 0, none⟩) (k + 1) (k + 1)] 40)).alloc (.cells #[.int .i64 2, .int .i64 (k : Int)] 53)).alloc (.cells #[.slice none 0 0, .slice none 0 0, .slice none 0 0] 40))) := Stp.start 2 (k : Int) h hB
  obtain ⟨hq0, hq1⟩ := cellsH_get ln k hk
  rw [hq] at hq0 hq1
  have k0 : ((((W.alloc (.cells #[.slice (some ⟨r1, 0, none⟩) 2 c1, .slice (some ⟨r2, 0, none⟩) 2 c2, .slice (some ⟨g, 0, none⟩) (k + 1) (k + 1)] 40)).alloc (.cells #[.int .i64 2, .int .i64 (k : Int)] 53)).alloc (.cells #[.slice none 0 0, .slice none 0 0, .slice none 0 0] 40))).cell? ⟨g, k * 2, none⟩ = some (.int .i64 1) := (own_cellH HT.out.own.ln HN.out _ (by omega)).trans hq0
  have k1 : ((((W.alloc (.cells #[.slice (some ⟨r1, 0, none⟩) 2 c1, .slice (some ⟨r2, 0, none⟩) 2 c2, .slice (some ⟨g, 0, none⟩) (k + 1) (k + 1)] 40)).alloc (.cells #[.int .i64 2, .int .i64 (k : Int)] 53)).alloc (.cells #[.slice none 0 0, .slice none 0 0, .slice none 0 0] 40))).cell? ⟨g, k * 2 + 1, none⟩ = some (.bool qh) := (own_cellH HT.out.own.ln HN.out _ (by omega)).trans hq1
  clear hq0 hq1
  have HLT : Hid (∀ j, Has (.slice (some ⟨r1, 0, none⟩) 2 c1) (.slice (some ⟨r2, 0, none⟩) 2 c2) (.slice (some ⟨g, 0, none⟩) (k + 1) (k + 1)) j → j < W.heap.size) := fun j hj => (h.lt j hj).2
  have HE : Hid (ln.take k ++ ln.drop (k + 1) = ln.eraseIdx k) := erase_cat ln k
  have HTL : Hid ((ln.take k).length = k ∧ (ln.drop (k + 1)).length = ln.length - (k + 1)) := ⟨by simp; omega, by simp⟩
  have HA : Hid (Stp W B (.slice (some ⟨r1, 0, none⟩) 2 c1) (.slice (some ⟨r2, 0, none⟩) 2 c2) (.slice (some ⟨g, 0, none⟩) (k + 1) (k + 1)) (.slice (some ⟨r1, 0, none⟩) 2 c1) (.slice (some ⟨r2, 0, none⟩) 2 c2) (.slice (some ⟨g, 0, none⟩) (k + 1) (k + 1)) 2 (k : Int) ⟨[s0, s1], [l0, l1], ln⟩ (((((W.alloc (.cells #[.slice (some ⟨r1, 0, none⟩) 2 c1, .slice (some ⟨r2, 0, none⟩) 2 c2, .slice (some ⟨g, 0, none⟩) (k + 1) (k + 1)] 40)).alloc (.cells #[.int .i64 2, .int .i64 (k : Int)] 53)).alloc (.cells #[.slice none 0 0, .slice none 0 0, .slice none 0 0] 40)).alloc (.cells #[.int .i64 1, .bool qh] 61)).alloc (.cells #[] 61))) := (HT.out.step ((Below.refl _ _).alloc (Nat.le_refl _) _)).step ((Below.refl _ _).alloc (Nat.le_refl _) _)
  have HHB : Hid (Bx2 (((((W.alloc (.cells #[.slice (some ⟨r1, 0, none⟩) 2 c1, .slice (some ⟨r2, 0, none⟩) 2 c2, .slice (some ⟨g, 0, none⟩) (k + 1) (k + 1)] 40)).alloc (.cells #[.int .i64 2, .int .i64 (k : Int)] 53)).alloc (.cells #[.slice none 0 0, .slice none 0 0, .slice none 0 0] 40)).alloc (.cells #[.int .i64 1, .bool qh] 61)).alloc (.cells #[] 61)) (W.heap.size + 1 + 1 + 1) (.int .i64 1) (.bool qh)) := by
    have := (Bx2.new (((W.alloc (.cells #[.slice (some ⟨r1, 0, none⟩) 2 c1, .slice (some ⟨r2, 0, none⟩) 2 c2, .slice (some ⟨g, 0, none⟩) (k + 1) (k + 1)] 40)).alloc (.cells #[.int .i64 2, .int .i64 (k : Int)] 53)).alloc (.cells #[.slice none 0 0, .slice none 0 0, .slice none 0 0] 40)) (.int .i64 1) (.bool qh) 61).below ((Below.refl _ _).alloc (Nat.le_refl _) (.cells #[] 61))
    exact (show Bx2 _ _ _ _ by simpa using this)
  have HEM : Hid (Emp 61 (((((W.alloc (.cells #[.slice (some ⟨r1, 0, none⟩) 2 c1, .slice (some ⟨r2, 0, none⟩) 2 c2, .slice (some ⟨g, 0, none⟩) (k + 1) (k + 1)] 40)).alloc (.cells #[.int .i64 2, .int .i64 (k : Int)] 53)).alloc (.cells #[.slice none 0 0, .slice none 0 0, .slice none 0 0] 40)).alloc (.cells #[.int .i64 1, .bool qh] 61)).alloc (.cells #[] 61)) (W.heap.size + 1 + 1 + 1 + 1)) := emp_new (by simp)
  have HZ5 : Hid (((((((W.alloc (.cells #[.slice (some ⟨r1, 0, none⟩) 2 c1, .slice (some ⟨r2, 0, none⟩) 2 c2, .slice (some ⟨g, 0, none⟩) (k + 1) (k + 1)] 40)).alloc (.cells #[.int .i64 2, .int .i64 (k : Int)] 53)).alloc (.cells #[.slice none 0 0, .slice none 0 0, .slice none 0 0] 40)).alloc (.cells #[.int .i64 1, .bool qh] 61)).alloc (.cells #[] 61))).heap.size = W.heap.size + 1 + 1 + 1 + 1 + 1) := by show _ = _; simp
  have C1 : Hid (∀ ty, ∃ v' w', (Builtin.append_ #[38, 38] ty #[.slice (some ⟨W.heap.size + 1 + 1 + 1 + 1, 0, none⟩) 0 0, .slice (some ⟨g, 0, none⟩) k (k + 1)]).run Try.prog (((((W.alloc (.cells #[.slice (some ⟨r1, 0, none⟩) 2 c1, .slice (some ⟨r2, 0, none⟩) 2 c2, .slice (some ⟨g, 0, none⟩) (k + 1) (k + 1)] 40)).alloc (.cells #[.int .i64 2, .int .i64 (k : Int)] 53)).alloc (.cells #[.slice none 0 0, .slice none 0 0, .slice none 0 0] 40)).alloc (.cells #[.int .i64 1, .bool qh] 61)).alloc (.cells #[] 61)) = .ok v' w' ∧ GrewH (((((W.alloc (.cells #[.slice (some ⟨r1, 0, none⟩) 2 c1, .slice (some ⟨r2, 0, none⟩) 2 c2, .slice (some ⟨g, 0, none⟩) (k + 1) (k + 1)] 40)).alloc (.cells #[.int .i64 2, .int .i64 (k : Int)] 53)).alloc (.cells #[.slice none 0 0, .slice none 0 0, .slice none 0 0] 40)).alloc (.cells #[.int .i64 1, .bool qh] 61)).alloc (.cells #[] 61)) (W.heap.size + 1 + 1 + 1 + 1) (.slice (some ⟨W.heap.size + 1 + 1 + 1 + 1, 0, none⟩) 0 0) (ln.take k) v' w') := fun ty =>
    run_catH _ _ _ [] (HEM.out.hellos (Nat.le_refl _)) _ (ln.take k) (source_take2 HA.out.own.ln HN.out k (k + 1) (by omega)) (by have := HTL.out.1; simp; omega) (by rw [HZ5.out]; omega) ty
  obtain ⟨ln', hln'⟩ : ∃ ln', ln' = ln.eraseIdx k := ⟨_, rfl⟩
  have C2 : Hid (∀ w v, Own3 w B (.slice (some ⟨r1, 0, none⟩) 2 c1) (.slice (some ⟨r2, 0, none⟩) 2 c2) (.slice (some ⟨g, 0, none⟩) (k + 1) (k + 1)) ⟨[s0, s1], [l0, l1], ln⟩ → OwnH w (W.heap.size + 1 + 1 + 1 + 1) v (ln.take k) → W.heap.size + 1 + 1 + 1 + 1 ≤ w.heap.size → ∀ ty, ∃ v' w', (Builtin.append_ #[38, 38] ty #[v, (.slice (some ⟨g, 0, none⟩) 0 0)]).run Try.prog w = .ok v' w' ∧ GrewH w (W.heap.size + 1 + 1 + 1 + 1) v ln' v' w') := fun w v ho hv hz ty => by
    have hsrc : Source w (.slice (some ⟨g, 0, none⟩) 0 0) (ln.drop (k + 1)).length (cellsH (ln.drop (k + 1))) := by
      have hd : ln.drop (k + 1) = [] := List.drop_eq_nil_of_le (by have := HN.out; omega)
      rw [hd]
      exact source_none _ _
    have := run_catH w _ v (ln.take k) hv _ (ln.drop (k + 1)) hsrc (by have := HTL.out; omega) hz ty
    rw [hln', ← HE.out]
    exact this
  rw [← hln']
  clear hln' HE h
  have i0 : (0 : Int) ≤ (k : Int) := by omega
  have i1 : (k : Int) ≤ (((k + 1) : Nat) : Int) := by omega
  have i2 : (k : Int) + 1 ≤ (((k + 1) : Nat) : Int) := by omega
  have i3 : (0 : Int) ≤ (k : Int) + 1 := by omega
  have i5 : (((k + 1) : Nat) : Int) ≤ (((k + 1) : Nat) : Int) := by omega
  have i6 : ¬ (((k + 1) : Nat) : Int) ≤ (k : Int) := by omega
  have i7 : (k : Int) < (((k + 1) : Nat) : Int) := by omega
  have i8 : ¬ (k : Int) < 0 := by omega
  have i9 : k ≤ 1048576 := by omega
  clear hn hk hq
  have i4 : IntKind.i64.wrap ((k : Int) + 1) = (k : Int) + 1 := wrap_succ k i9
  go_enter Try.func56, Try.ntmps56
  go_wp2_with (first
    | (at_builtin; refine list_cat (by rfl) (.tmp 71) (.tmp 76) 38 (by rfl) (.slice (some ⟨W.heap.size + 1 + 1 + 1 + 1, 0, none⟩) 0 0) (.slice (some ⟨g, 0, none⟩) k (k + 1)) (by rfl) (by rfl) _ C1.out ?_; intro v1 w1 hg1; have HS1 : Hid (Stp W B (.slice (some ⟨r1, 0, none⟩) 2 c1) (.slice (some ⟨r2, 0, none⟩) 2 c2) (.slice (some ⟨g, 0, none⟩) (k + 1) (k + 1)) (.slice (some ⟨r1, 0, none⟩) 2 c1) (.slice (some ⟨r2, 0, none⟩) 2 c2) (.slice (some ⟨g, 0, none⟩) (k + 1) (k + 1)) 2 (k : Int) ⟨[s0, s1], [l0, l1], ln⟩ w1) := cut_one HA.out HLT.out hg1 (own_blk _); have HH1 : Hid (Bx2 w1 (W.heap.size + 1 + 1 + 1) (.int .i64 1) (.bool qh)) := cut_box HHB.out hg1 (own_blk _); obtain ⟨p0, p1, p2, p3, pf⟩ := HS1.out.px; obtain ⟨t0, t1, t2, -⟩ := HS1.out.sx; have hz1 : W.heap.size + 1 + 1 + 1 + 1 ≤ w1.heap.size := (by have := hg1.size; have := HZ5.out; omega); have HO1 : Hid (OwnH w1 (W.heap.size + 1 + 1 + 1 + 1) v1 (ln.take k)) := hg1.own; clear hg1)
    | (at_builtin; refine list_cat (by rfl) (.tmp 78) (.tmp 84) 38 (by rfl) v1 (.slice (some ⟨g, 0, none⟩) 0 0) (by rfl) (by rfl) _ (C2.out w1 v1 HS1.out.own HO1.out hz1) ?_; intro v2 w3 hg2; obtain ⟨b4, d4, rfl⟩ := hg2.own.shape; have HS2 : Hid (Stp W B (.slice (some ⟨r1, 0, none⟩) 2 c1) (.slice (some ⟨r2, 0, none⟩) 2 c2) (.slice (some ⟨g, 0, none⟩) (k + 1) (k + 1)) (.slice (some ⟨r1, 0, none⟩) 2 c1) (.slice (some ⟨r2, 0, none⟩) 2 c2) (.slice (some ⟨g, 0, none⟩) (k + 1) (k + 1)) 2 (k : Int) ⟨[s0, s1], [l0, l1], ln⟩ w3) := cut_one HS1.out HLT.out hg2 (fun j hj => (World.ownsRow.lt HO1.out j hj).1); have HH2 : Hid (Bx2 w3 (W.heap.size + 1 + 1 + 1) (.int .i64 1) (.bool qh)) := cut_box HH1.out hg2 (fun j hj => (World.ownsRow.lt HO1.out j hj).1); have HF : Hid (Stp W B (.slice (some ⟨r1, 0, none⟩) 2 c1) (.slice (some ⟨r2, 0, none⟩) 2 c2) (.slice (some ⟨g, 0, none⟩) (k + 1) (k + 1)) (.slice (some ⟨r1, 0, none⟩) 2 c1) (.slice (some ⟨r2, 0, none⟩) 2 c2) (.slice b4 ln'.length d4) 2 (k : Int) ⟨[s0, s1], [l0, l1], ln'⟩ (w3.setCell ⟨W.heap.size, 2, none⟩ (.slice b4 ln'.length d4))) := cut_line HS2.out hg2.own; clear p0 p1 p2 p3 pf t0 t1 t2; obtain ⟨p0, p1, p2, p3, pf⟩ := HS2.out.px; obtain ⟨m0, m1, m2, m3, mf⟩ := HF.out.px; obtain ⟨t0, t1, t2, -⟩ := HF.out.sx; obtain ⟨y0, y1, y2, y3, yf⟩ := HF.out.rx; have HHF : Hid (Bx2 (w3.setCell ⟨W.heap.size, 2, none⟩ (.slice b4 ln'.length d4)) (W.heap.size + 1 + 1 + 1) (.int .i64 1) (.bool qh)) := HH2.out.same (Below.heap_setCell _ _ _ _ (by show _ ≠ _; simp; omega)) (Nat.le_of_eq (setCell_size _ _ _).symm); have b0 := HHF.out.c0; have b1 := HHF.out.c1; clear hg2))
  generalize hw : (w3.setCell ⟨W.heap.size, 2, none⟩ (.slice b4 ln'.length d4)) = w5 at *
  clear hw
  have HDr : Stp W B (.slice (some ⟨r1, 0, none⟩) 2 c1) (.slice (some ⟨r2, 0, none⟩) 2 c2) (.slice (some ⟨g, 0, none⟩) (k + 1) (k + 1)) (.slice (some ⟨r1, 0, none⟩) 2 c1) (.slice (some ⟨r2, 0, none⟩) 2 c2) (.slice b4 ln'.length d4) 2 (k : Int) ⟨[s0, s1], [l0, l1], ln'⟩ w5.drew := HF.out.drew
  have HHd : Bx2 w5.drew (W.heap.size + 1 + 1 + 1) (.int .i64 1) (.bool qh) := HHF.out.drew
  obtain ⟨c0, c1', z0, z1⟩ := own_cells HDr.own.st
  go_region_held3 (fun w' => w'.cell? ⟨W.heap.size, 0, none⟩ = some (.slice (some ⟨r1, 0, none⟩) 2 c1) ∧ w'.cell? ⟨r1, 0, none⟩ = some (.int .i64 s0) ∧ w'.cell? ⟨W.heap.size + 1 + 1 + 1, 1, none⟩ = some (.bool qh))
    (first | with_reducible exact ⟨HDr.px.c0, c0, HHd.c1⟩ | fail)
    (first
      | (refine step_call (by rfl) 28 #[.int .i64 s0, .bool qh] (by simp [go_sem]) ((specNext_any s0 qh _).mono ?_); rintro e w6 ⟨rfl, rfl⟩; refine ⟨_, rfl, ?_⟩; rw [N1.out, G1.out])
      | fail)
  all_goals
    have HD7 : Hid (Stp W B (.slice (some ⟨r1, 0, none⟩) 2 c1) (.slice (some ⟨r2, 0, none⟩) 2 c2) (.slice (some ⟨g, 0, none⟩) (k + 1) (k + 1)) (.slice (some ⟨r1, 0, none⟩) 2 c1) (.slice (some ⟨r2, 0, none⟩) 2 c2) (.slice b4 ln'.length d4) 2 (k : Int) ⟨[s0, s1], [l0, l1], ln'⟩ w5.drew) := HDr
    clear HDr HHd c0 c1' z0 z1 m0 m1 m2 m3 mf t0 t1 t2 y0 y1 y2 y3 yf b0 b1 HHF HF
    generalize hw7 : w5.drew = w7 at *
    clear hw7
    obtain ⟨c0, c1', z0, z1⟩ := own_cells HD7.out.own.st
    have HE1 : Hid (Stp W B (.slice (some ⟨r1, 0, none⟩) 2 c1) (.slice (some ⟨r2, 0, none⟩) 2 c2) (.slice (some ⟨g, 0, none⟩) (k + 1) (k + 1)) (.slice (some ⟨r1, 0, none⟩) 2 c1) (.slice (some ⟨r2, 0, none⟩) 2 c2) (.slice b4 ln'.length d4) 2 (k : Int) ⟨[s0, s1].set 0 (heardS qh), [l0, l1], ln'⟩ (w7.setCell ⟨r1, 0, none⟩ (.int .i64 (heardS qh)))) := HD7.out.setSt 0 (heardS qh) rfl
    have HE2 : Hid (Stp W B (.slice (some ⟨r1, 0, none⟩) 2 c1) (.slice (some ⟨r2, 0, none⟩) 2 c2) (.slice (some ⟨g, 0, none⟩) (k + 1) (k + 1)) (.slice (some ⟨r1, 0, none⟩) 2 c1) (.slice (some ⟨r2, 0, none⟩) 2 c2) (.slice b4 ln'.length d4) 2 (k : Int) ⟨[s0, s1].set 0 (heardS qh), [l0, l1].set 0 3, ln'⟩ ((w7.setCell ⟨r1, 0, none⟩ (.int .i64 (heardS qh))).setCell ⟨r2, 0, none⟩ (.int .i64 3))) := HE1.out.setLf 0 3 rfl
    obtain ⟨e0, e1, x0, x1⟩ := own_cells HD7.out.own.lf
    obtain ⟨f0, f1, u0, u1⟩ := own_cells HE1.out.own.lf
    obtain ⟨p0, p1, p2, p3, pf⟩ := HD7.out.px
    obtain ⟨v0, v1', v2, v3, vf⟩ := HE1.out.px
    obtain ⟨m0, m1, m2, m3, mf⟩ := HE2.out.px
    obtain ⟨y0, y1, y2, y3, yf⟩ := HE2.out.rx
    go_wp2
    refine bodyPost_ret (v := .tuple #[.agg #[.slice (some ⟨r1, 0, none⟩) 2 c1, .slice (some ⟨r2, 0, none⟩) 2 c2, .slice b4 ln'.length d4], .bool true]) (by simp [results, Try.results56, go_sem, y1, y2, y3]) rfl ?_
    exact HE2.out.fin true

set_option maxRecDepth 100000 in
set_option maxHeartbeats 4000000 in
theorem sp_take_1_b (W : World) (B g r1 r2 c1 c2 k n cap : Nat) (s0 s1 l0 l1 : Int) (ln : List HD) (q : HD) (h : Own3 W B (.slice (some ⟨r1, 0, none⟩) 2 c1) (.slice (some ⟨r2, 0, none⟩) 2 c2) (.slice (some ⟨g, 0, none⟩) n cap) ⟨[s0, s1], [l0, l1], ln⟩) (hB : B ≤ W.heap.size) (hl : ln.length ≤ 12) (hn : ln.length = n) (hnc : n ≤ cap) (hne : ¬ cap = k + 1) (hk : k < ln.length) (hq : ln[k] = q) (hf : q.f = 1) (g0 : stateB s0 = true) (g1 : stateB s1 = true) :
    Calls Try.prog 56 #[.agg #[.slice (some ⟨r1, 0, none⟩) 2 c1, .slice (some ⟨r2, 0, none⟩) 2 c2, .slice (some ⟨g, 0, none⟩) n cap], .agg #[.int .i64 2, .int .i64 (k : Int)]] W (StpPost W B (.slice (some ⟨r1, 0, none⟩) 2 c1) (.slice (some ⟨r2, 0, none⟩) 2 c2) (.slice (some ⟨g, 0, none⟩) n cap) ⟨[s0, s1].set 0 (heardS q.h), [l0, l1].set 0 3, ln.eraseIdx k⟩ true) := by
  obtain ⟨qf, qh⟩ := q
  have hf : qf = 1 := hf
  subst hf
  simp only at hq ⊢
  have N1 : Hid (nextS s0 qh = heardS qh) := nextS_good s0 qh g0
  have G1 : Hid (stateB s0 = true) := g0
  have HN : Hid (ln.length = n) := hn
  have HT : Hid (Stp W B (.slice (some ⟨r1, 0, none⟩) 2 c1) (.slice (some ⟨r2, 0, none⟩) 2 c2) (.slice (some ⟨g, 0, none⟩) n cap) (.slice (some ⟨r1, 0, none⟩) 2 c1) (.slice (some ⟨r2, 0, none⟩) 2 c2) (.slice (some ⟨g, 0, none⟩) n cap) 2 (k : Int) ⟨[s0, s1], [l0, l1], ln⟩ (((W.alloc (.cells #[.slice (some ⟨r1, 0, none⟩) 2 c1, .slice (some ⟨r2, 0, none⟩) 2 c2, .slice (some ⟨g, 0, none⟩) n cap] 40)).alloc (.cells #[.int .i64 2, .int .i64 (k : Int)] 53)).alloc (.cells #[.slice none 0 0, .slice none 0 0, .slice none 0 0] 40))) := Stp.start 2 (k : Int) h hB
  obtain ⟨hq0, hq1⟩ := cellsH_get ln k hk
  rw [hq] at hq0 hq1
  have k0 : ((((W.alloc (.cells #[.slice (some ⟨r1, 0, none⟩) 2 c1, .slice (some ⟨r2, 0, none⟩) 2 c2, .slice (some ⟨g, 0, none⟩) n cap] 40)).alloc (.cells #[.int .i64 2, .int .i64 (k : Int)] 53)).alloc (.cells #[.slice none 0 0, .slice none 0 0, .slice none 0 0] 40))).cell? ⟨g, k * 2, none⟩ = some (.int .i64 1) := (own_cellH HT.out.own.ln HN.out _ (by omega)).trans hq0
  have k1 : ((((W.alloc (.cells #[.slice (some ⟨r1, 0, none⟩) 2 c1, .slice (some ⟨r2, 0, none⟩) 2 c2, .slice (some ⟨g, 0, none⟩) n cap] 40)).alloc (.cells #[.int .i64 2, .int .i64 (k : Int)] 53)).alloc (.cells #[.slice none 0 0, .slice none 0 0, .slice none 0 0] 40))).cell? ⟨g, k * 2 + 1, none⟩ = some (.bool qh) := (own_cellH HT.out.own.ln HN.out _ (by omega)).trans hq1
  clear hq0 hq1
  have HLT : Hid (∀ j, Has (.slice (some ⟨r1, 0, none⟩) 2 c1) (.slice (some ⟨r2, 0, none⟩) 2 c2) (.slice (some ⟨g, 0, none⟩) n cap) j → j < W.heap.size) := fun j hj => (h.lt j hj).2
  have HE : Hid (ln.take k ++ ln.drop (k + 1) = ln.eraseIdx k) := erase_cat ln k
  have HTL : Hid ((ln.take k).length = k ∧ (ln.drop (k + 1)).length = ln.length - (k + 1)) := ⟨by simp; omega, by simp⟩
  have HA : Hid (Stp W B (.slice (some ⟨r1, 0, none⟩) 2 c1) (.slice (some ⟨r2, 0, none⟩) 2 c2) (.slice (some ⟨g, 0, none⟩) n cap) (.slice (some ⟨r1, 0, none⟩) 2 c1) (.slice (some ⟨r2, 0, none⟩) 2 c2) (.slice (some ⟨g, 0, none⟩) n cap) 2 (k : Int) ⟨[s0, s1], [l0, l1], ln⟩ (((((W.alloc (.cells #[.slice (some ⟨r1, 0, none⟩) 2 c1, .slice (some ⟨r2, 0, none⟩) 2 c2, .slice (some ⟨g, 0, none⟩) n cap] 40)).alloc (.cells #[.int .i64 2, .int .i64 (k : Int)] 53)).alloc (.cells #[.slice none 0 0, .slice none 0 0, .slice none 0 0] 40)).alloc (.cells #[.int .i64 1, .bool qh] 61)).alloc (.cells #[] 61))) := (HT.out.step ((Below.refl _ _).alloc (Nat.le_refl _) _)).step ((Below.refl _ _).alloc (Nat.le_refl _) _)
  have HHB : Hid (Bx2 (((((W.alloc (.cells #[.slice (some ⟨r1, 0, none⟩) 2 c1, .slice (some ⟨r2, 0, none⟩) 2 c2, .slice (some ⟨g, 0, none⟩) n cap] 40)).alloc (.cells #[.int .i64 2, .int .i64 (k : Int)] 53)).alloc (.cells #[.slice none 0 0, .slice none 0 0, .slice none 0 0] 40)).alloc (.cells #[.int .i64 1, .bool qh] 61)).alloc (.cells #[] 61)) (W.heap.size + 1 + 1 + 1) (.int .i64 1) (.bool qh)) := by
    have := (Bx2.new (((W.alloc (.cells #[.slice (some ⟨r1, 0, none⟩) 2 c1, .slice (some ⟨r2, 0, none⟩) 2 c2, .slice (some ⟨g, 0, none⟩) n cap] 40)).alloc (.cells #[.int .i64 2, .int .i64 (k : Int)] 53)).alloc (.cells #[.slice none 0 0, .slice none 0 0, .slice none 0 0] 40)) (.int .i64 1) (.bool qh) 61).below ((Below.refl _ _).alloc (Nat.le_refl _) (.cells #[] 61))
    exact (show Bx2 _ _ _ _ by simpa using this)
  have HEM : Hid (Emp 61 (((((W.alloc (.cells #[.slice (some ⟨r1, 0, none⟩) 2 c1, .slice (some ⟨r2, 0, none⟩) 2 c2, .slice (some ⟨g, 0, none⟩) n cap] 40)).alloc (.cells #[.int .i64 2, .int .i64 (k : Int)] 53)).alloc (.cells #[.slice none 0 0, .slice none 0 0, .slice none 0 0] 40)).alloc (.cells #[.int .i64 1, .bool qh] 61)).alloc (.cells #[] 61)) (W.heap.size + 1 + 1 + 1 + 1)) := emp_new (by simp)
  have HZ5 : Hid (((((((W.alloc (.cells #[.slice (some ⟨r1, 0, none⟩) 2 c1, .slice (some ⟨r2, 0, none⟩) 2 c2, .slice (some ⟨g, 0, none⟩) n cap] 40)).alloc (.cells #[.int .i64 2, .int .i64 (k : Int)] 53)).alloc (.cells #[.slice none 0 0, .slice none 0 0, .slice none 0 0] 40)).alloc (.cells #[.int .i64 1, .bool qh] 61)).alloc (.cells #[] 61))).heap.size = W.heap.size + 1 + 1 + 1 + 1 + 1) := by show _ = _; simp
  have C1 : Hid (∀ ty, ∃ v' w', (Builtin.append_ #[38, 38] ty #[.slice (some ⟨W.heap.size + 1 + 1 + 1 + 1, 0, none⟩) 0 0, .slice (some ⟨g, 0, none⟩) k cap]).run Try.prog (((((W.alloc (.cells #[.slice (some ⟨r1, 0, none⟩) 2 c1, .slice (some ⟨r2, 0, none⟩) 2 c2, .slice (some ⟨g, 0, none⟩) n cap] 40)).alloc (.cells #[.int .i64 2, .int .i64 (k : Int)] 53)).alloc (.cells #[.slice none 0 0, .slice none 0 0, .slice none 0 0] 40)).alloc (.cells #[.int .i64 1, .bool qh] 61)).alloc (.cells #[] 61)) = .ok v' w' ∧ GrewH (((((W.alloc (.cells #[.slice (some ⟨r1, 0, none⟩) 2 c1, .slice (some ⟨r2, 0, none⟩) 2 c2, .slice (some ⟨g, 0, none⟩) n cap] 40)).alloc (.cells #[.int .i64 2, .int .i64 (k : Int)] 53)).alloc (.cells #[.slice none 0 0, .slice none 0 0, .slice none 0 0] 40)).alloc (.cells #[.int .i64 1, .bool qh] 61)).alloc (.cells #[] 61)) (W.heap.size + 1 + 1 + 1 + 1) (.slice (some ⟨W.heap.size + 1 + 1 + 1 + 1, 0, none⟩) 0 0) (ln.take k) v' w') := fun ty =>
    run_catH _ _ _ [] (HEM.out.hellos (Nat.le_refl _)) _ (ln.take k) (source_take2 HA.out.own.ln HN.out k cap (by omega)) (by have := HTL.out.1; simp; omega) (by rw [HZ5.out]; omega) ty
  obtain ⟨ln', hln'⟩ : ∃ ln', ln' = ln.eraseIdx k := ⟨_, rfl⟩
  have C2 : Hid (∀ w v, Own3 w B (.slice (some ⟨r1, 0, none⟩) 2 c1) (.slice (some ⟨r2, 0, none⟩) 2 c2) (.slice (some ⟨g, 0, none⟩) n cap) ⟨[s0, s1], [l0, l1], ln⟩ → OwnH w (W.heap.size + 1 + 1 + 1 + 1) v (ln.take k) → W.heap.size + 1 + 1 + 1 + 1 ≤ w.heap.size → ∀ ty, ∃ v' w', (Builtin.append_ #[38, 38] ty #[v, (.slice (some ⟨g, (k + 1) * 2, none⟩) (n - (k + 1)) (cap - (k + 1)))]).run Try.prog w = .ok v' w' ∧ GrewH w (W.heap.size + 1 + 1 + 1 + 1) v ln' v' w') := fun w v ho hv hz ty => by
    have hsrc : Source w (.slice (some ⟨g, (k + 1) * 2, none⟩) (n - (k + 1)) (cap - (k + 1))) (ln.drop (k + 1)).length (cellsH (ln.drop (k + 1))) := by
      have := HN.out
      subst this
      exact source_drop ho.ln (k + 1) (cap - (k + 1))
    have := run_catH w _ v (ln.take k) hv _ (ln.drop (k + 1)) hsrc (by have := HTL.out; omega) hz ty
    rw [hln', ← HE.out]
    exact this
  rw [← hln']
  clear hln' HE h
  have i0 : (0 : Int) ≤ (k : Int) := by omega
  have i1 : (k : Int) ≤ ((cap : Nat) : Int) := by omega
  have i2 : (k : Int) + 1 ≤ ((n : Nat) : Int) := by omega
  have i3 : (0 : Int) ≤ (k : Int) + 1 := by omega
  have i5 : ((n : Nat) : Int) ≤ ((cap : Nat) : Int) := by omega
  have i6 : ¬ ((n : Nat) : Int) ≤ (k : Int) := by omega
  have i7 : (k : Int) < ((n : Nat) : Int) := by omega
  have i8 : ¬ (k : Int) < 0 := by omega
  have i9 : k ≤ 1048576 := by omega
  clear hn hk hq
  have i4 : IntKind.i64.wrap ((k : Int) + 1) = (k : Int) + 1 := wrap_succ k i9
  go_enter Try.func56, Try.ntmps56
  go_wp2_with (first
    | (at_builtin; refine list_cat (by rfl) (.tmp 71) (.tmp 76) 38 (by rfl) (.slice (some ⟨W.heap.size + 1 + 1 + 1 + 1, 0, none⟩) 0 0) (.slice (some ⟨g, 0, none⟩) k cap) (by rfl) (by rfl) _ C1.out ?_; intro v1 w1 hg1; have HS1 : Hid (Stp W B (.slice (some ⟨r1, 0, none⟩) 2 c1) (.slice (some ⟨r2, 0, none⟩) 2 c2) (.slice (some ⟨g, 0, none⟩) n cap) (.slice (some ⟨r1, 0, none⟩) 2 c1) (.slice (some ⟨r2, 0, none⟩) 2 c2) (.slice (some ⟨g, 0, none⟩) n cap) 2 (k : Int) ⟨[s0, s1], [l0, l1], ln⟩ w1) := cut_one HA.out HLT.out hg1 (own_blk _); have HH1 : Hid (Bx2 w1 (W.heap.size + 1 + 1 + 1) (.int .i64 1) (.bool qh)) := cut_box HHB.out hg1 (own_blk _); obtain ⟨p0, p1, p2, p3, pf⟩ := HS1.out.px; obtain ⟨t0, t1, t2, -⟩ := HS1.out.sx; have hz1 : W.heap.size + 1 + 1 + 1 + 1 ≤ w1.heap.size := (by have := hg1.size; have := HZ5.out; omega); have HO1 : Hid (OwnH w1 (W.heap.size + 1 + 1 + 1 + 1) v1 (ln.take k)) := hg1.own; clear hg1)
    | (at_builtin; refine list_cat (by rfl) (.tmp 78) (.tmp 84) 38 (by rfl) v1 (.slice (some ⟨g, (k + 1) * 2, none⟩) (n - (k + 1)) (cap - (k + 1))) (by rfl) (by rfl) _ (C2.out w1 v1 HS1.out.own HO1.out hz1) ?_; intro v2 w3 hg2; obtain ⟨b4, d4, rfl⟩ := hg2.own.shape; have HS2 : Hid (Stp W B (.slice (some ⟨r1, 0, none⟩) 2 c1) (.slice (some ⟨r2, 0, none⟩) 2 c2) (.slice (some ⟨g, 0, none⟩) n cap) (.slice (some ⟨r1, 0, none⟩) 2 c1) (.slice (some ⟨r2, 0, none⟩) 2 c2) (.slice (some ⟨g, 0, none⟩) n cap) 2 (k : Int) ⟨[s0, s1], [l0, l1], ln⟩ w3) := cut_one HS1.out HLT.out hg2 (fun j hj => (World.ownsRow.lt HO1.out j hj).1); have HH2 : Hid (Bx2 w3 (W.heap.size + 1 + 1 + 1) (.int .i64 1) (.bool qh)) := cut_box HH1.out hg2 (fun j hj => (World.ownsRow.lt HO1.out j hj).1); have HF : Hid (Stp W B (.slice (some ⟨r1, 0, none⟩) 2 c1) (.slice (some ⟨r2, 0, none⟩) 2 c2) (.slice (some ⟨g, 0, none⟩) n cap) (.slice (some ⟨r1, 0, none⟩) 2 c1) (.slice (some ⟨r2, 0, none⟩) 2 c2) (.slice b4 ln'.length d4) 2 (k : Int) ⟨[s0, s1], [l0, l1], ln'⟩ (w3.setCell ⟨W.heap.size, 2, none⟩ (.slice b4 ln'.length d4))) := cut_line HS2.out hg2.own; clear p0 p1 p2 p3 pf t0 t1 t2; obtain ⟨p0, p1, p2, p3, pf⟩ := HS2.out.px; obtain ⟨m0, m1, m2, m3, mf⟩ := HF.out.px; obtain ⟨t0, t1, t2, -⟩ := HF.out.sx; obtain ⟨y0, y1, y2, y3, yf⟩ := HF.out.rx; have HHF : Hid (Bx2 (w3.setCell ⟨W.heap.size, 2, none⟩ (.slice b4 ln'.length d4)) (W.heap.size + 1 + 1 + 1) (.int .i64 1) (.bool qh)) := HH2.out.same (Below.heap_setCell _ _ _ _ (by show _ ≠ _; simp; omega)) (Nat.le_of_eq (setCell_size _ _ _).symm); have b0 := HHF.out.c0; have b1 := HHF.out.c1; clear hg2))
  generalize hw : (w3.setCell ⟨W.heap.size, 2, none⟩ (.slice b4 ln'.length d4)) = w5 at *
  clear hw
  have HDr : Stp W B (.slice (some ⟨r1, 0, none⟩) 2 c1) (.slice (some ⟨r2, 0, none⟩) 2 c2) (.slice (some ⟨g, 0, none⟩) n cap) (.slice (some ⟨r1, 0, none⟩) 2 c1) (.slice (some ⟨r2, 0, none⟩) 2 c2) (.slice b4 ln'.length d4) 2 (k : Int) ⟨[s0, s1], [l0, l1], ln'⟩ w5.drew := HF.out.drew
  have HHd : Bx2 w5.drew (W.heap.size + 1 + 1 + 1) (.int .i64 1) (.bool qh) := HHF.out.drew
  obtain ⟨c0, c1', z0, z1⟩ := own_cells HDr.own.st
  go_region_held3 (fun w' => w'.cell? ⟨W.heap.size, 0, none⟩ = some (.slice (some ⟨r1, 0, none⟩) 2 c1) ∧ w'.cell? ⟨r1, 0, none⟩ = some (.int .i64 s0) ∧ w'.cell? ⟨W.heap.size + 1 + 1 + 1, 1, none⟩ = some (.bool qh))
    (first | with_reducible exact ⟨HDr.px.c0, c0, HHd.c1⟩ | fail)
    (first
      | (refine step_call (by rfl) 28 #[.int .i64 s0, .bool qh] (by simp [go_sem]) ((specNext_any s0 qh _).mono ?_); rintro e w6 ⟨rfl, rfl⟩; refine ⟨_, rfl, ?_⟩; rw [N1.out, G1.out])
      | fail)
  all_goals
    have HD7 : Hid (Stp W B (.slice (some ⟨r1, 0, none⟩) 2 c1) (.slice (some ⟨r2, 0, none⟩) 2 c2) (.slice (some ⟨g, 0, none⟩) n cap) (.slice (some ⟨r1, 0, none⟩) 2 c1) (.slice (some ⟨r2, 0, none⟩) 2 c2) (.slice b4 ln'.length d4) 2 (k : Int) ⟨[s0, s1], [l0, l1], ln'⟩ w5.drew) := HDr
    clear HDr HHd c0 c1' z0 z1 m0 m1 m2 m3 mf t0 t1 t2 y0 y1 y2 y3 yf b0 b1 HHF HF
    generalize hw7 : w5.drew = w7 at *
    clear hw7
    obtain ⟨c0, c1', z0, z1⟩ := own_cells HD7.out.own.st
    have HE1 : Hid (Stp W B (.slice (some ⟨r1, 0, none⟩) 2 c1) (.slice (some ⟨r2, 0, none⟩) 2 c2) (.slice (some ⟨g, 0, none⟩) n cap) (.slice (some ⟨r1, 0, none⟩) 2 c1) (.slice (some ⟨r2, 0, none⟩) 2 c2) (.slice b4 ln'.length d4) 2 (k : Int) ⟨[s0, s1].set 0 (heardS qh), [l0, l1], ln'⟩ (w7.setCell ⟨r1, 0, none⟩ (.int .i64 (heardS qh)))) := HD7.out.setSt 0 (heardS qh) rfl
    have HE2 : Hid (Stp W B (.slice (some ⟨r1, 0, none⟩) 2 c1) (.slice (some ⟨r2, 0, none⟩) 2 c2) (.slice (some ⟨g, 0, none⟩) n cap) (.slice (some ⟨r1, 0, none⟩) 2 c1) (.slice (some ⟨r2, 0, none⟩) 2 c2) (.slice b4 ln'.length d4) 2 (k : Int) ⟨[s0, s1].set 0 (heardS qh), [l0, l1].set 0 3, ln'⟩ ((w7.setCell ⟨r1, 0, none⟩ (.int .i64 (heardS qh))).setCell ⟨r2, 0, none⟩ (.int .i64 3))) := HE1.out.setLf 0 3 rfl
    obtain ⟨e0, e1, x0, x1⟩ := own_cells HD7.out.own.lf
    obtain ⟨f0, f1, u0, u1⟩ := own_cells HE1.out.own.lf
    obtain ⟨p0, p1, p2, p3, pf⟩ := HD7.out.px
    obtain ⟨v0, v1', v2, v3, vf⟩ := HE1.out.px
    obtain ⟨m0, m1, m2, m3, mf⟩ := HE2.out.px
    obtain ⟨y0, y1, y2, y3, yf⟩ := HE2.out.rx
    go_wp2
    refine bodyPost_ret (v := .tuple #[.agg #[.slice (some ⟨r1, 0, none⟩) 2 c1, .slice (some ⟨r2, 0, none⟩) 2 c2, .slice b4 ln'.length d4], .bool true]) (by simp [results, Try.results56, go_sem, y1, y2, y3]) rfl ?_
    exact HE2.out.fin true

end Go.Proofs.Ytchddjidjfpehaa
