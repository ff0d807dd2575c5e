/-
  'l3Step' of the model, a step's kind at a time.
-/
import Derived.Test.YtchddjidjfpehaaSpStep0
import Derived.Test.YtchddjidjfpehaaGoodSpec
import Derived.Test.YtchddjidjfpehaaJa
import Derived.Test.YtchddjidjfpehaaOwnSp
import Derived.Test.YtchddjidjfpehaaNextSt
namespace Go.Proofs.Ytchddjidjfpehaa
open Go.RowKit
set_option linter.unusedVariables false

/-- An append onto a row of the call's own. -/
theorem cut_one {W : World} {B : Nat} {x y z x' y' z' v : Value} {kind k : Int} {q : PR} {w w' : World} {v' : Value} {hs : List HD} (h : Stp W B x y z x' y' z' kind k q w) (hlt : ∀ j, Has x' y' z' j → j < W.heap.size) (hg : GrewH w (W.heap.size + 1 + 1 + 1 + 1) v hs v' w')
    (hv : ∀ j, v.ownBlock = some j → W.heap.size + 1 + 1 + 1 + 1 ≤ j) : Stp W B x y z x' y' z' kind k q w' :=
  h.grow hg.grown (fun j hj => ⟨by have := hv j hj; omega, fun hh => by have := hlt j hh; have := hv j hj; omega⟩)
theorem cut_box {W : World} {w w' : World} {v v' : Value} {hs : List HD} {f b : Value} (h : Bx2 w (W.heap.size + 1 + 1 + 1) f b) (hg : GrewH w (W.heap.size + 1 + 1 + 1 + 1) v hs v' w') (hv : ∀ j, v.ownBlock = some j → W.heap.size + 1 + 1 + 1 + 1 ≤ j) : Bx2 w' (W.heap.size + 1 + 1 + 1) f b :=
  h.same (hg.grown.block _ h.lt (fun e => by have := hv _ e.symm; omega)) hg.size
theorem own_cellH {w : World} {B g n c : Nat} {ln : List HD} (h : OwnH w B (.slice (some ⟨g, 0, none⟩) n c) ln) (hn : ln.length = n) (j : Nat) (hj : j < n * 2) : w.cell? ⟨g, j, none⟩ = (cellsH ln)[j]? := by
  subst hn
  exact World.ownsRow.cellAt h j hj
theorem source_take2 {W : World} {B g n cap : Nat} {hs : List HD} (h : OwnH W B (.slice (some ⟨g, 0, none⟩) n cap) hs) (hn : hs.length = n) (k c : Nat) (hk : k ≤ n) : Source W (.slice (some ⟨g, 0, none⟩) k c) (hs.take k).length (cellsH (hs.take k)) := by
  subst hn
  exact source_take h k c hk
theorem own_blk (n : Nat) : ∀ j, (Value.slice (some ⟨n, 0, none⟩) 0 0).ownBlock = some j → n ≤ j := fun j hj => by simp [Value.ownBlock] at hj; omega
theorem cut_line {W : World} {B : Nat} {x y z x' y' z' v : Value} {kind k : Int} {q : PR} {w : World} {ln' : List HD} (h : Stp W B x y z x' y' z' kind k q w) (ho : OwnH w (W.heap.size + 1 + 1 + 1 + 1) v ln') : Stp W B x y z x' y' v kind k ⟨q.st, q.lf, ln'⟩ (w.setCell ⟨W.heap.size, 2, none⟩ v) :=
  h.line (Nat.le_refl _) (fun _ _ _ => rfl) (Below.refl _ _) (ho.mono (by have := h.bB; omega)) (.inr fun j hj => by have := (World.ownsRow.lt ho j hj).1; omega)

set_option maxRecDepth 100000 in
set_option maxHeartbeats 4000000 in
theorem sp_lose_a (W : World) (B g r1 r2 c1 c2 k : Nat) (s0 s1 l0 l1 : Int) (ln : List HD) (q : HD) (h : Own3 W B (.slice (some ⟨r1, 0, none⟩) 2 c1) (.slice (some ⟨r2, 0, none⟩) 2 c2) (.slice (some ⟨g, 0, none⟩) (k + 1) (k + 1)) ⟨[s0, s1], [l0, l1], ln⟩) (hB : B ≤ W.heap.size) (hl : ln.length ≤ 12) (hn : ln.length = k + 1) (hk : k < ln.length) (hq : ln[k] = q)  :
    Calls Try.prog 56 #[.agg #[.slice (some ⟨r1, 0, none⟩) 2 c1, .slice (some ⟨r2, 0, none⟩) 2 c2, .slice (some ⟨g, 0, none⟩) (k + 1) (k + 1)], .agg #[.int .i64 3, .int .i64 (k : Int)]] W (StpPost W B (.slice (some ⟨r1, 0, none⟩) 2 c1) (.slice (some ⟨r2, 0, none⟩) 2 c2) (.slice (some ⟨g, 0, none⟩) (k + 1) (k + 1)) ⟨[s0, s1], [l0, l1], ln.eraseIdx k⟩ true) := by
  have HN : Hid (ln.length = (k + 1)) := hn
  have HT : Hid (Stp W B (.slice (some ⟨r1, 0, none⟩) 2 c1) (.slice (some ⟨r2, 0, none⟩) 2 c2) (.slice (some ⟨g, 0, none⟩) (k + 1) (k + 1)) (.slice (some ⟨r1, 0, none⟩) 2 c1) (.slice (some ⟨r2, 0, none⟩) 2 c2) (.slice (some ⟨g, 0, none⟩) (k + 1) (k + 1)) 3 (k : Int) ⟨[s0, s1], [l0, l1], ln⟩ (((W.alloc (.cells #[.slice (some ⟨r1, 0, none⟩) 2 c1, .slice (some ⟨r2, 0, none⟩) 2 c2, .slice (some ⟨g, 0, none⟩) (k + 1) (k + 1)] 40)).alloc (.cells #[.int .i64 3, .int .i64 (k : Int)] 53)).alloc (.cells #[.slice none 0 0, .slice none 0 0, .slice none 0 0] 40))) := Stp.start 3 (k : Int) h hB
  obtain ⟨hq0, hq1⟩ := cellsH_get ln k hk
  rw [hq] at hq0 hq1
  have k0 : ((((W.alloc (.cells #[.slice (some ⟨r1, 0, none⟩) 2 c1, .slice (some ⟨r2, 0, none⟩) 2 c2, .slice (some ⟨g, 0, none⟩) (k + 1) (k + 1)] 40)).alloc (.cells #[.int .i64 3, .int .i64 (k : Int)] 53)).alloc (.cells #[.slice none 0 0, .slice none 0 0, .slice none 0 0] 40))).cell? ⟨g, k * 2, none⟩ = some (.int .i64 q.f) := (own_cellH HT.out.own.ln HN.out _ (by omega)).trans hq0
  have k1 : ((((W.alloc (.cells #[.slice (some ⟨r1, 0, none⟩) 2 c1, .slice (some ⟨r2, 0, none⟩) 2 c2, .slice (some ⟨g, 0, none⟩) (k + 1) (k + 1)] 40)).alloc (.cells #[.int .i64 3, .int .i64 (k : Int)] 53)).alloc (.cells #[.slice none 0 0, .slice none 0 0, .slice none 0 0] 40))).cell? ⟨g, k * 2 + 1, none⟩ = some (.bool q.h) := (own_cellH HT.out.own.ln HN.out _ (by omega)).trans hq1
  clear hq0 hq1
  have HLT : Hid (∀ j, Has (.slice (some ⟨r1, 0, none⟩) 2 c1) (.slice (some ⟨r2, 0, none⟩) 2 c2) (.slice (some ⟨g, 0, none⟩) (k + 1) (k + 1)) j → j < W.heap.size) := fun j hj => (h.lt j hj).2
  have HE : Hid (ln.take k ++ ln.drop (k + 1) = ln.eraseIdx k) := erase_cat ln k
  have HTL : Hid ((ln.take k).length = k ∧ (ln.drop (k + 1)).length = ln.length - (k + 1)) := ⟨by simp; omega, by simp⟩
  have HA : Hid (Stp W B (.slice (some ⟨r1, 0, none⟩) 2 c1) (.slice (some ⟨r2, 0, none⟩) 2 c2) (.slice (some ⟨g, 0, none⟩) (k + 1) (k + 1)) (.slice (some ⟨r1, 0, none⟩) 2 c1) (.slice (some ⟨r2, 0, none⟩) 2 c2) (.slice (some ⟨g, 0, none⟩) (k + 1) (k + 1)) 3 (k : Int) ⟨[s0, s1], [l0, l1], ln⟩ (((((W.alloc (.cells #[.slice (some ⟨r1, 0, none⟩) 2 c1, .slice (some ⟨r2, 0, none⟩) 2 c2, .slice (some ⟨g, 0, none⟩) (k + 1) (k + 1)] 40)).alloc (.cells #[.int .i64 3, .int .i64 (k : Int)] 53)).alloc (.cells #[.slice none 0 0, .slice none 0 0, .slice none 0 0] 40)).alloc (.cells #[.int .i64 q.f, .bool q.h] 61)).alloc (.cells #[] 61))) := (HT.out.step ((Below.refl _ _).alloc (Nat.le_refl _) _)).step ((Below.refl _ _).alloc (Nat.le_refl _) _)
  have HHB : Hid (Bx2 (((((W.alloc (.cells #[.slice (some ⟨r1, 0, none⟩) 2 c1, .slice (some ⟨r2, 0, none⟩) 2 c2, .slice (some ⟨g, 0, none⟩) (k + 1) (k + 1)] 40)).alloc (.cells #[.int .i64 3, .int .i64 (k : Int)] 53)).alloc (.cells #[.slice none 0 0, .slice none 0 0, .slice none 0 0] 40)).alloc (.cells #[.int .i64 q.f, .bool q.h] 61)).alloc (.cells #[] 61)) (W.heap.size + 1 + 1 + 1) (.int .i64 q.f) (.bool q.h)) := by
    have := (Bx2.new (((W.alloc (.cells #[.slice (some ⟨r1, 0, none⟩) 2 c1, .slice (some ⟨r2, 0, none⟩) 2 c2, .slice (some ⟨g, 0, none⟩) (k + 1) (k + 1)] 40)).alloc (.cells #[.int .i64 3, .int .i64 (k : Int)] 53)).alloc (.cells #[.slice none 0 0, .slice none 0 0, .slice none 0 0] 40)) (.int .i64 q.f) (.bool q.h) 61).below ((Below.refl _ _).alloc (Nat.le_refl _) (.cells #[] 61))
    exact (show Bx2 _ _ _ _ by simpa using this)
  have HEM : Hid (Emp 61 (((((W.alloc (.cells #[.slice (some ⟨r1, 0, none⟩) 2 c1, .slice (some ⟨r2, 0, none⟩) 2 c2, .slice (some ⟨g, 0, none⟩) (k + 1) (k + 1)] 40)).alloc (.cells #[.int .i64 3, .int .i64 (k : Int)] 53)).alloc (.cells #[.slice none 0 0, .slice none 0 0, .slice none 0 0] 40)).alloc (.cells #[.int .i64 q.f, .bool q.h] 61)).alloc (.cells #[] 61)) (W.heap.size + 1 + 1 + 1 + 1)) := emp_new (by simp)
  have HZ5 : Hid (((((((W.alloc (.cells #[.slice (some ⟨r1, 0, none⟩) 2 c1, .slice (some ⟨r2, 0, none⟩) 2 c2, .slice (some ⟨g, 0, none⟩) (k + 1) (k + 1)] 40)).alloc (.cells #[.int .i64 3, .int .i64 (k : Int)] 53)).alloc (.cells #[.slice none 0 0, .slice none 0 0, .slice none 0 0] 40)).alloc (.cells #[.int .i64 q.f, .bool q.h] 61)).alloc (.cells #[] 61))).heap.size = W.heap.size + 1 + 1 + 1 + 1 + 1) := by show _ = _; simp
  have C1 : Hid (∀ ty, ∃ v' w', (Builtin.append_ #[38, 38] ty #[.slice (some ⟨W.heap.size + 1 + 1 + 1 + 1, 0, none⟩) 0 0, .slice (some ⟨g, 0, none⟩) k (k + 1)]).run Try.prog (((((W.alloc (.cells #[.slice (some ⟨r1, 0, none⟩) 2 c1, .slice (some ⟨r2, 0, none⟩) 2 c2, .slice (some ⟨g, 0, none⟩) (k + 1) (k + 1)] 40)).alloc (.cells #[.int .i64 3, .int .i64 (k : Int)] 53)).alloc (.cells #[.slice none 0 0, .slice none 0 0, .slice none 0 0] 40)).alloc (.cells #[.int .i64 q.f, .bool q.h] 61)).alloc (.cells #[] 61)) = .ok v' w' ∧ GrewH (((((W.alloc (.cells #[.slice (some ⟨r1, 0, none⟩) 2 c1, .slice (some ⟨r2, 0, none⟩) 2 c2, .slice (some ⟨g, 0, none⟩) (k + 1) (k + 1)] 40)).alloc (.cells #[.int .i64 3, .int .i64 (k : Int)] 53)).alloc (.cells #[.slice none 0 0, .slice none 0 0, .slice none 0 0] 40)).alloc (.cells #[.int .i64 q.f, .bool q.h] 61)).alloc (.cells #[] 61)) (W.heap.size + 1 + 1 + 1 + 1) (.slice (some ⟨W.heap.size + 1 + 1 + 1 + 1, 0, none⟩) 0 0) (ln.take k) v' w') := fun ty =>
    run_catH _ _ _ [] (HEM.out.hellos (Nat.le_refl _)) _ (ln.take k) (source_take2 HA.out.own.ln HN.out k (k + 1) (by omega)) (by have := HTL.out.1; simp; omega) (by rw [HZ5.out]; omega) ty
  obtain ⟨ln', hln'⟩ : ∃ ln', ln' = ln.eraseIdx k := ⟨_, rfl⟩
  have C2 : Hid (∀ w v, Own3 w B (.slice (some ⟨r1, 0, none⟩) 2 c1) (.slice (some ⟨r2, 0, none⟩) 2 c2) (.slice (some ⟨g, 0, none⟩) (k + 1) (k + 1)) ⟨[s0, s1], [l0, l1], ln⟩ → OwnH w (W.heap.size + 1 + 1 + 1 + 1) v (ln.take k) → W.heap.size + 1 + 1 + 1 + 1 ≤ w.heap.size → ∀ ty, ∃ v' w', (Builtin.append_ #[38, 38] ty #[v, (.slice (some ⟨g, 0, none⟩) 0 0)]).run Try.prog w = .ok v' w' ∧ GrewH w (W.heap.size + 1 + 1 + 1 + 1) v ln' v' w') := fun w v ho hv hz ty => by
    have hsrc : Source w (.slice (some ⟨g, 0, none⟩) 0 0) (ln.drop (k + 1)).length (cellsH (ln.drop (k + 1))) := by
      have hd : ln.drop (k + 1) = [] := List.drop_eq_nil_of_le (by have := HN.out; omega)
      rw [hd]
      exact source_none _ _
    have := run_catH w _ v (ln.take k) hv _ (ln.drop (k + 1)) hsrc (by have := HTL.out; omega) hz ty
    rw [hln', ← HE.out]
    exact this
  rw [← hln']
  clear hln' HE h
  have i0 : (0 : Int) ≤ (k : Int) := by omega
  have i1 : (k : Int) ≤ (((k + 1) : Nat) : Int) := by omega
  have i2 : (k : Int) + 1 ≤ (((k + 1) : Nat) : Int) := by omega
  have i3 : (0 : Int) ≤ (k : Int) + 1 := by omega
  have i5 : (((k + 1) : Nat) : Int) ≤ (((k + 1) : Nat) : Int) := by omega
  have i6 : ¬ (((k + 1) : Nat) : Int) ≤ (k : Int) := by omega
  have i7 : (k : Int) < (((k + 1) : Nat) : Int) := by omega
  have i8 : ¬ (k : Int) < 0 := by omega
  have i9 : k ≤ 1048576 := by omega
  clear hn hk hq
  have i4 : IntKind.i64.wrap ((k : Int) + 1) = (k : Int) + 1 := wrap_succ k i9
  go_enter Try.func56, Try.ntmps56
  go_wp2_with (first
    | (at_builtin; refine list_cat (by rfl) (.tmp 71) (.tmp 76) 38 (by rfl) (.slice (some ⟨W.heap.size + 1 + 1 + 1 + 1, 0, none⟩) 0 0) (.slice (some ⟨g, 0, none⟩) k (k + 1)) (by rfl) (by rfl) _ C1.out ?_; intro v1 w1 hg1; have HS1 : Hid (Stp W B (.slice (some ⟨r1, 0, none⟩) 2 c1) (.slice (some ⟨r2, 0, none⟩) 2 c2) (.slice (some ⟨g, 0, none⟩) (k + 1) (k + 1)) (.slice (some ⟨r1, 0, none⟩) 2 c1) (.slice (some ⟨r2, 0, none⟩) 2 c2) (.slice (some ⟨g, 0, none⟩) (k + 1) (k + 1)) 3 (k : Int) ⟨[s0, s1], [l0, l1], ln⟩ w1) := cut_one HA.out HLT.out hg1 (own_blk _); have HH1 : Hid (Bx2 w1 (W.heap.size + 1 + 1 + 1) (.int .i64 q.f) (.bool q.h)) := cut_box HHB.out hg1 (own_blk _); obtain ⟨p0, p1, p2, p3, pf⟩ := HS1.out.px; obtain ⟨t0, t1, t2, -⟩ := HS1.out.sx; have hz1 : W.heap.size + 1 + 1 + 1 + 1 ≤ w1.heap.size := (by have := hg1.size; have := HZ5.out; omega); have HO1 : Hid (OwnH w1 (W.heap.size + 1 + 1 + 1 + 1) v1 (ln.take k)) := hg1.own; clear hg1)
    | (at_builtin; refine list_cat (by rfl) (.tmp 78) (.tmp 84) 38 (by rfl) v1 (.slice (some ⟨g, 0, none⟩) 0 0) (by rfl) (by rfl) _ (C2.out w1 v1 HS1.out.own HO1.out hz1) ?_; intro v2 w3 hg2; obtain ⟨b4, d4, rfl⟩ := hg2.own.shape; have HS2 : Hid (Stp W B (.slice (some ⟨r1, 0, none⟩) 2 c1) (.slice (some ⟨r2, 0, none⟩) 2 c2) (.slice (some ⟨g, 0, none⟩) (k + 1) (k + 1)) (.slice (some ⟨r1, 0, none⟩) 2 c1) (.slice (some ⟨r2, 0, none⟩) 2 c2) (.slice (some ⟨g, 0, none⟩) (k + 1) (k + 1)) 3 (k : Int) ⟨[s0, s1], [l0, l1], ln⟩ w3) := cut_one HS1.out HLT.out hg2 (fun j hj => (World.ownsRow.lt HO1.out j hj).1); have HH2 : Hid (Bx2 w3 (W.heap.size + 1 + 1 + 1) (.int .i64 q.f) (.bool q.h)) := cut_box HH1.out hg2 (fun j hj => (World.ownsRow.lt HO1.out j hj).1); have HF : Hid (Stp W B (.slice (some ⟨r1, 0, none⟩) 2 c1) (.slice (some ⟨r2, 0, none⟩) 2 c2) (.slice (some ⟨g, 0, none⟩) (k + 1) (k + 1)) (.slice (some ⟨r1, 0, none⟩) 2 c1) (.slice (some ⟨r2, 0, none⟩) 2 c2) (.slice b4 ln'.length d4) 3 (k : Int) ⟨[s0, s1], [l0, l1], ln'⟩ (w3.setCell ⟨W.heap.size, 2, none⟩ (.slice b4 ln'.length d4))) := cut_line HS2.out hg2.own; clear p0 p1 p2 p3 pf t0 t1 t2; obtain ⟨p0, p1, p2, p3, pf⟩ := HS2.out.px; obtain ⟨m0, m1, m2, m3, mf⟩ := HF.out.px; obtain ⟨t0, t1, t2, -⟩ := HF.out.sx; obtain ⟨y0, y1, y2, y3, yf⟩ := HF.out.rx; have HHF : Hid (Bx2 (w3.setCell ⟨W.heap.size, 2, none⟩ (.slice b4 ln'.length d4)) (W.heap.size + 1 + 1 + 1) (.int .i64 q.f) (.bool q.h)) := HH2.out.same (Below.heap_setCell _ _ _ _ (by show _ ≠ _; simp; omega)) (Nat.le_of_eq (setCell_size _ _ _).symm); have b0 := HHF.out.c0; have b1 := HHF.out.c1; clear hg2))
  refine bodyPost_ret (v := .tuple #[.agg #[.slice (some ⟨r1, 0, none⟩) 2 c1, .slice (some ⟨r2, 0, none⟩) 2 c2, .slice b4 ln'.length d4], .bool true]) (by simp [results, Try.results56, go_sem, y1, y2, y3]) rfl ?_
  exact HF.out.fin true

set_option maxRecDepth 100000 in
set_option maxHeartbeats 4000000 in
theorem sp_lose_b (W : World) (B g r1 r2 c1 c2 k n cap : Nat) (s0 s1 l0 l1 : Int) (ln : List HD) (q : HD) (h : Own3 W B (.slice (some ⟨r1, 0, none⟩) 2 c1) (.slice (some ⟨r2, 0, none⟩) 2 c2) (.slice (some ⟨g, 0, none⟩) n cap) ⟨[s0, s1], [l0, l1], ln⟩) (hB : B ≤ W.heap.size) (hl : ln.length ≤ 12) (hn : ln.length = n) (hnc : n ≤ cap) (hne : ¬ cap = k + 1) (hk : k < ln.length) (hq : ln[k] = q)  :
    Calls Try.prog 56 #[.agg #[.slice (some ⟨r1, 0, none⟩) 2 c1, .slice (some ⟨r2, 0, none⟩) 2 c2, .slice (some ⟨g, 0, none⟩) n cap], .agg #[.int .i64 3, .int .i64 (k : Int)]] W (StpPost W B (.slice (some ⟨r1, 0, none⟩) 2 c1) (.slice (some ⟨r2, 0, none⟩) 2 c2) (.slice (some ⟨g, 0, none⟩) n cap) ⟨[s0, s1], [l0, l1], ln.eraseIdx k⟩ true) := by
  have HN : Hid (ln.length = n) := hn
  have HT : Hid (Stp W B (.slice (some ⟨r1, 0, none⟩) 2 c1) (.slice (some ⟨r2, 0, none⟩) 2 c2) (.slice (some ⟨g, 0, none⟩) n cap) (.slice (some ⟨r1, 0, none⟩) 2 c1) (.slice (some ⟨r2, 0, none⟩) 2 c2) (.slice (some ⟨g, 0, none⟩) n cap) 3 (k : Int) ⟨[s0, s1], [l0, l1], ln⟩ (((W.alloc (.cells #[.slice (some ⟨r1, 0, none⟩) 2 c1, .slice (some ⟨r2, 0, none⟩) 2 c2, .slice (some ⟨g, 0, none⟩) n cap] 40)).alloc (.cells #[.int .i64 3, .int .i64 (k : Int)] 53)).alloc (.cells #[.slice none 0 0, .slice none 0 0, .slice none 0 0] 40))) := Stp.start 3 (k : Int) h hB
  obtain ⟨hq0, hq1⟩ := cellsH_get ln k hk
  rw [hq] at hq0 hq1
  have k0 : ((((W.alloc (.cells #[.slice (some ⟨r1, 0, none⟩) 2 c1, .slice (some ⟨r2, 0, none⟩) 2 c2, .slice (some ⟨g, 0, none⟩) n cap] 40)).alloc (.cells #[.int .i64 3, .int .i64 (k : Int)] 53)).alloc (.cells #[.slice none 0 0, .slice none 0 0, .slice none 0 0] 40))).cell? ⟨g, k * 2, none⟩ = some (.int .i64 q.f) := (own_cellH HT.out.own.ln HN.out _ (by omega)).trans hq0
  have k1 : ((((W.alloc (.cells #[.slice (some ⟨r1, 0, none⟩) 2 c1, .slice (some ⟨r2, 0, none⟩) 2 c2, .slice (some ⟨g, 0, none⟩) n cap] 40)).alloc (.cells #[.int .i64 3, .int .i64 (k : Int)] 53)).alloc (.cells #[.slice none 0 0, .slice none 0 0, .slice none 0 0] 40))).cell? ⟨g, k * 2 + 1, none⟩ = some (.bool q.h) := (own_cellH HT.out.own.ln HN.out _ (by omega)).trans hq1
  clear hq0 hq1
  have HLT : Hid (∀ j, Has (.slice (some ⟨r1, 0, none⟩) 2 c1) (.slice (some ⟨r2, 0, none⟩) 2 c2) (.slice (some ⟨g, 0, none⟩) n cap) j → j < W.heap.size) := fun j hj => (h.lt j hj).2
  have HE : Hid (ln.take k ++ ln.drop (k + 1) = ln.eraseIdx k) := erase_cat ln k
  have HTL : Hid ((ln.take k).length = k ∧ (ln.drop (k + 1)).length = ln.length - (k + 1)) := ⟨by simp; omega, by simp⟩
  have HA : Hid (Stp W B (.slice (some ⟨r1, 0, none⟩) 2 c1) (.slice (some ⟨r2, 0, none⟩) 2 c2) (.slice (some ⟨g, 0, none⟩) n cap) (.slice (some ⟨r1, 0, none⟩) 2 c1) (.slice (some ⟨r2, 0, none⟩) 2 c2) (.slice (some ⟨g, 0, none⟩) n cap) 3 (k : Int) ⟨[s0, s1], [l0, l1], ln⟩ (((((W.alloc (.cells #[.slice (some ⟨r1, 0, none⟩) 2 c1, .slice (some ⟨r2, 0, none⟩) 2 c2, .slice (some ⟨g, 0, none⟩) n cap] 40)).alloc (.cells #[.int .i64 3, .int .i64 (k : Int)] 53)).alloc (.cells #[.slice none 0 0, .slice none 0 0, .slice none 0 0] 40)).alloc (.cells #[.int .i64 q.f, .bool q.h] 61)).alloc (.cells #[] 61))) := (HT.out.step ((Below.refl _ _).alloc (Nat.le_refl _) _)).step ((Below.refl _ _).alloc (Nat.le_refl _) _)
  have HHB : Hid (Bx2 (((((W.alloc (.cells #[.slice (some ⟨r1, 0, none⟩) 2 c1, .slice (some ⟨r2, 0, none⟩) 2 c2, .slice (some ⟨g, 0, none⟩) n cap] 40)).alloc (.cells #[.int .i64 3, .int .i64 (k : Int)] 53)).alloc (.cells #[.slice none 0 0, .slice none 0 0, .slice none 0 0] 40)).alloc (.cells #[.int .i64 q.f, .bool q.h] 61)).alloc (.cells #[] 61)) (W.heap.size + 1 + 1 + 1) (.int .i64 q.f) (.bool q.h)) := by
    have := (Bx2.new (((W.alloc (.cells #[.slice (some ⟨r1, 0, none⟩) 2 c1, .slice (some ⟨r2, 0, none⟩) 2 c2, .slice (some ⟨g, 0, none⟩) n cap] 40)).alloc (.cells #[.int .i64 3, .int .i64 (k : Int)] 53)).alloc (.cells #[.slice none 0 0, .slice none 0 0, .slice none 0 0] 40)) (.int .i64 q.f) (.bool q.h) 61).below ((Below.refl _ _).alloc (Nat.le_refl _) (.cells #[] 61))
    exact (show Bx2 _ _ _ _ by simpa using this)
  have HEM : Hid (Emp 61 (((((W.alloc (.cells #[.slice (some ⟨r1, 0, none⟩) 2 c1, .slice (some ⟨r2, 0, none⟩) 2 c2, .slice (some ⟨g, 0, none⟩) n cap] 40)).alloc (.cells #[.int .i64 3, .int .i64 (k : Int)] 53)).alloc (.cells #[.slice none 0 0, .slice none 0 0, .slice none 0 0] 40)).alloc (.cells #[.int .i64 q.f, .bool q.h] 61)).alloc (.cells #[] 61)) (W.heap.size + 1 + 1 + 1 + 1)) := emp_new (by simp)
  have HZ5 : Hid (((((((W.alloc (.cells #[.slice (some ⟨r1, 0, none⟩) 2 c1, .slice (some ⟨r2, 0, none⟩) 2 c2, .slice (some ⟨g, 0, none⟩) n cap] 40)).alloc (.cells #[.int .i64 3, .int .i64 (k : Int)] 53)).alloc (.cells #[.slice none 0 0, .slice none 0 0, .slice none 0 0] 40)).alloc (.cells #[.int .i64 q.f, .bool q.h] 61)).alloc (.cells #[] 61))).heap.size = W.heap.size + 1 + 1 + 1 + 1 + 1) := by show _ = _; simp
  have C1 : Hid (∀ ty, ∃ v' w', (Builtin.append_ #[38, 38] ty #[.slice (some ⟨W.heap.size + 1 + 1 + 1 + 1, 0, none⟩) 0 0, .slice (some ⟨g, 0, none⟩) k cap]).run Try.prog (((((W.alloc (.cells #[.slice (some ⟨r1, 0, none⟩) 2 c1, .slice (some ⟨r2, 0, none⟩) 2 c2, .slice (some ⟨g, 0, none⟩) n cap] 40)).alloc (.cells #[.int .i64 3, .int .i64 (k : Int)] 53)).alloc (.cells #[.slice none 0 0, .slice none 0 0, .slice none 0 0] 40)).alloc (.cells #[.int .i64 q.f, .bool q.h] 61)).alloc (.cells #[] 61)) = .ok v' w' ∧ GrewH (((((W.alloc (.cells #[.slice (some ⟨r1, 0, none⟩) 2 c1, .slice (some ⟨r2, 0, none⟩) 2 c2, .slice (some ⟨g, 0, none⟩) n cap] 40)).alloc (.cells #[.int .i64 3, .int .i64 (k : Int)] 53)).alloc (.cells #[.slice none 0 0, .slice none 0 0, .slice none 0 0] 40)).alloc (.cells #[.int .i64 q.f, .bool q.h] 61)).alloc (.cells #[] 61)) (W.heap.size + 1 + 1 + 1 + 1) (.slice (some ⟨W.heap.size + 1 + 1 + 1 + 1, 0, none⟩) 0 0) (ln.take k) v' w') := fun ty =>
    run_catH _ _ _ [] (HEM.out.hellos (Nat.le_refl _)) _ (ln.take k) (source_take2 HA.out.own.ln HN.out k cap (by omega)) (by have := HTL.out.1; simp; omega) (by rw [HZ5.out]; omega) ty
  obtain ⟨ln', hln'⟩ : ∃ ln', ln' = ln.eraseIdx k := ⟨_, rfl⟩
  have C2 : Hid (∀ w v, Own3 w B (.slice (some ⟨r1, 0, none⟩) 2 c1) (.slice (some ⟨r2, 0, none⟩) 2 c2) (.slice (some ⟨g, 0, none⟩) n cap) ⟨[s0, s1], [l0, l1], ln⟩ → OwnH w (W.heap.size + 1 + 1 + 1 + 1) v (ln.take k) → W.heap.size + 1 + 1 + 1 + 1 ≤ w.heap.size → ∀ ty, ∃ v' w', (Builtin.append_ #[38, 38] ty #[v, (.slice (some ⟨g, (k + 1) * 2, none⟩) (n - (k + 1)) (cap - (k + 1)))]).run Try.prog w = .ok v' w' ∧ GrewH w (W.heap.size + 1 + 1 + 1 + 1) v ln' v' w') := fun w v ho hv hz ty => by
    have hsrc : Source w (.slice (some ⟨g, (k + 1) * 2, none⟩) (n - (k + 1)) (cap - (k + 1))) (ln.drop (k + 1)).length (cellsH (ln.drop (k + 1))) := by
      have := HN.out
      subst this
      exact source_drop ho.ln (k + 1) (cap - (k + 1))
    have := run_catH w _ v (ln.take k) hv _ (ln.drop (k + 1)) hsrc (by have := HTL.out; omega) hz ty
    rw [hln', ← HE.out]
    exact this
  rw [← hln']
  clear hln' HE h
  have i0 : (0 : Int) ≤ (k : Int) := by omega
  have i1 : (k : Int) ≤ ((cap : Nat) : Int) := by omega
  have i2 : (k : Int) + 1 ≤ ((n : Nat) : Int) := by omega
  have i3 : (0 : Int) ≤ (k : Int) + 1 := by omega
  have i5 : ((n : Nat) : Int) ≤ ((cap : Nat) : Int) := by omega
  have i6 : ¬ ((n : Nat) : Int) ≤ (k : Int) := by omega
  have i7 : (k : Int) < ((n : Nat) : Int) := by omega
  have i8 : ¬ (k : Int) < 0 := by omega
  have i9 : k ≤ 1048576 := by omega
  clear hn hk hq
  have i4 : IntKind.i64.wrap ((k : Int) + 1) = (k : Int) + 1 := wrap_succ k i9
  go_enter Try.func56, Try.ntmps56
  go_wp2_with (first
    | (at_builtin; refine list_cat (by rfl) (.tmp 71) (.tmp 76) 38 (by rfl) (.slice (some ⟨W.heap.size + 1 + 1 + 1 + 1, 0, none⟩) 0 0) (.slice (some ⟨g, 0, none⟩) k cap) (by rfl) (by rfl) _ C1.out ?_; intro v1 w1 hg1; have HS1 : Hid (Stp W B (.slice (some ⟨r1, 0, none⟩) 2 c1) (.slice (some ⟨r2, 0, none⟩) 2 c2) (.slice (some ⟨g, 0, none⟩) n cap) (.slice (some ⟨r1, 0, none⟩) 2 c1) (.slice (some ⟨r2, 0, none⟩) 2 c2) (.slice (some ⟨g, 0, none⟩) n cap) 3 (k : Int) ⟨[s0, s1], [l0, l1], ln⟩ w1) := cut_one HA.out HLT.out hg1 (own_blk _); have HH1 : Hid (Bx2 w1 (W.heap.size + 1 + 1 + 1) (.int .i64 q.f) (.bool q.h)) := cut_box HHB.out hg1 (own_blk _); obtain ⟨p0, p1, p2, p3, pf⟩ := HS1.out.px; obtain ⟨t0, t1, t2, -⟩ := HS1.out.sx; have hz1 : W.heap.size + 1 + 1 + 1 + 1 ≤ w1.heap.size := (by have := hg1.size; have := HZ5.out; omega); have HO1 : Hid (OwnH w1 (W.heap.size + 1 + 1 + 1 + 1) v1 (ln.take k)) := hg1.own; clear hg1)
    | (at_builtin; refine list_cat (by rfl) (.tmp 78) (.tmp 84) 38 (by rfl) v1 (.slice (some ⟨g, (k + 1) * 2, none⟩) (n - (k + 1)) (cap - (k + 1))) (by rfl) (by rfl) _ (C2.out w1 v1 HS1.out.own HO1.out hz1) ?_; intro v2 w3 hg2; obtain ⟨b4, d4, rfl⟩ := hg2.own.shape; have HS2 : Hid (Stp W B (.slice (some ⟨r1, 0, none⟩) 2 c1) (.slice (some ⟨r2, 0, none⟩) 2 c2) (.slice (some ⟨g, 0, none⟩) n cap) (.slice (some ⟨r1, 0, none⟩) 2 c1) (.slice (some ⟨r2, 0, none⟩) 2 c2) (.slice (some ⟨g, 0, none⟩) n cap) 3 (k : Int) ⟨[s0, s1], [l0, l1], ln⟩ w3) := cut_one HS1.out HLT.out hg2 (fun j hj => (World.ownsRow.lt HO1.out j hj).1); have HH2 : Hid (Bx2 w3 (W.heap.size + 1 + 1 + 1) (.int .i64 q.f) (.bool q.h)) := cut_box HH1.out hg2 (fun j hj => (World.ownsRow.lt HO1.out j hj).1); have HF : Hid (Stp W B (.slice (some ⟨r1, 0, none⟩) 2 c1) (.slice (some ⟨r2, 0, none⟩) 2 c2) (.slice (some ⟨g, 0, none⟩) n cap) (.slice (some ⟨r1, 0, none⟩) 2 c1) (.slice (some ⟨r2, 0, none⟩) 2 c2) (.slice b4 ln'.length d4) 3 (k : Int) ⟨[s0, s1], [l0, l1], ln'⟩ (w3.setCell ⟨W.heap.size, 2, none⟩ (.slice b4 ln'.length d4))) := cut_line HS2.out hg2.own; clear p0 p1 p2 p3 pf t0 t1 t2; obtain ⟨p0, p1, p2, p3, pf⟩ := HS2.out.px; obtain ⟨m0, m1, m2, m3, mf⟩ := HF.out.px; obtain ⟨t0, t1, t2, -⟩ := HF.out.sx; obtain ⟨y0, y1, y2, y3, yf⟩ := HF.out.rx; have HHF : Hid (Bx2 (w3.setCell ⟨W.heap.size, 2, none⟩ (.slice b4 ln'.length d4)) (W.heap.size + 1 + 1 + 1) (.int .i64 q.f) (.bool q.h)) := HH2.out.same (Below.heap_setCell _ _ _ _ (by show _ ≠ _; simp; omega)) (Nat.le_of_eq (setCell_size _ _ _).symm); have b0 := HHF.out.c0; have b1 := HHF.out.c1; clear hg2))
  refine bodyPost_ret (v := .tuple #[.agg #[.slice (some ⟨r1, 0, none⟩) 2 c1, .slice (some ⟨r2, 0, none⟩) 2 c2, .slice b4 ln'.length d4], .bool true]) (by simp [results, Try.results56, go_sem, y1, y2, y3]) rfl ?_
  exact HF.out.fin true

end Go.Proofs.Ytchddjidjfpehaa
