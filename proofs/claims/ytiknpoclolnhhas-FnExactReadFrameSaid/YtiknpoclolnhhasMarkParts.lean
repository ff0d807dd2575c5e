/-
  'markPartS' and 'heldPartS': marks put into every part of a list, and found again.
-/
import Derived.Test.YtiknpoclolnhhasMarks
namespace Go.Proofs.Ytiknpoclolnhhas
open Go.RowKit

theorem val_of {a b : Int} (h : a = b) : Value.int .i64 a = .int .i64 b := by rw [h]

/-- A part with marks from k on; a list so; the number behind. -/
def markP (p : PD) (k : Nat) : PD := ⟨(k : Int), mtext (k + 1), marks ((k + 2 : Nat) : Int) p.zs.length⟩
def markAll : List PD → Nat → List PD
  | [], _ => []
  | p :: ps, k => markP p k :: markAll ps (k + 2 + p.zs.length)
def endK : List PD → Nat → Nat
  | [], k => k
  | p :: ps, k => endK ps (k + 2 + p.zs.length)
theorem markAll_len : ∀ (ps : List PD) (k : Nat), (markAll ps k).length = ps.length
  | [], _ => rfl
  | p :: ps, k => by simp [markAll, markAll_len ps]
theorem endK_snoc : ∀ (ps : List PD) (p : PD) (k : Nat), endK (ps ++ [p]) k = endK ps k + 2 + p.zs.length
  | [], _, _ => rfl
  | q :: ps, p, k => by simp only [List.cons_append, endK]; exact endK_snoc ps p _
theorem markAll_snoc : ∀ (ps : List PD) (p : PD) (k : Nat), markAll (ps ++ [p]) k = markAll ps k ++ [markP p (endK ps k)]
  | [], _, _ => rfl
  | q :: ps, p, k => by simp only [List.cons_append, markAll, endK]; rw [markAll_snoc ps p _]
theorem markAll_at : ∀ (ps : List PD) (k j : Nat) (hj : j < ps.length) (h' : j < (markAll ps k).length), (markAll ps k)[j] = markP ps[j] (endK (ps.take j) k)
  | p :: ps, k, 0, _, _ => rfl
  | p :: ps, k, j + 1, hj, h' => by
    simp only [markAll, List.getElem_cons_succ, List.take_succ_cons, endK]
    exact markAll_at ps _ j (by simpa using hj) _
theorem endK_bd : ∀ (ps : List PD) (k m : Nat), (∀ p ∈ ps, p.zs.length ≤ m) → k ≤ endK ps k ∧ endK ps k ≤ k + ps.length * (2 + m)
  | [], k, m, _ => by simp [endK]
  | p :: ps, k, m, h => by
    have h1 := h p (by simp)
    have h2 := endK_bd ps (k + 2 + p.zs.length) m (fun q hq => h q (List.mem_cons_of_mem _ hq))
    simp only [endK, List.length_cons]
    have e : (ps.length + 1) * (2 + m) = ps.length * (2 + m) + (2 + m) := by rw [Nat.add_mul, Nat.one_mul]
    omega

/-- The list of which the first i are marked. -/
def half (ps : List PD) (k i : Nat) : List PD := markAll (ps.take i) k ++ ps.drop i
theorem half_len (ps : List PD) (k i : Nat) (h : i ≤ ps.length) : (half ps k i).length = ps.length := by
  unfold half; rw [List.length_append, markAll_len, List.length_take, List.length_drop]; omega
theorem half_at (ps : List PD) (k i : Nat) (h : i < ps.length) (h' : i < (half ps k i).length) : (half ps k i)[i] = ps[i] := by
  have el : (markAll (ps.take i) k).length = i := by rw [markAll_len, List.length_take]; omega
  have e : (markAll (ps.take i) k ++ ps.drop i)[i]? = some ps[i] := by
    rw [List.getElem?_append_right (by omega), el, Nat.sub_self, List.getElem?_drop, Nat.add_zero, List.getElem?_eq_getElem h]
  exact Option.some.inj ((List.getElem?_eq_getElem h').symm.trans e)
theorem half_next (ps : List PD) (k i : Nat) (h : i < ps.length) : half ps k (i + 1) = (half ps k i).set i (markP ps[i] (endK (ps.take i) k)) := by
  unfold half
  rw [List.take_succ_eq_append_getElem h, markAll_snoc]
  have e : ps.drop i = ps[i] :: ps.drop (i + 1) := List.drop_eq_getElem_cons h
  have el : (markAll (ps.take i) k).length = i := by rw [markAll_len, List.length_take]; omega
  rw [e, List.set_append_right _ _ (by rw [el]; exact Nat.le_refl _), el, Nat.sub_self, List.set_cons_zero]
  simp
theorem half_all (ps : List PD) (k : Nat) : half ps k ps.length = markAll ps k := by simp [half]

theorem cellsP_setK : ∀ (qs : List PD) (xs : List Value) (i : Nat) (k : Int) (_ : xs.length = qs.length) (h : i < qs.length), cellsP (qs.set i ⟨k, qs[i].t, qs[i].zs⟩) xs = (cellsP qs xs).set (i * 3) (.int .i64 k)
  | q :: qs, x :: xs, 0, k, _, _ => rfl
  | q :: qs, x :: xs, i + 1, k, hx, h => by
    have e : (i + 1) * 3 = i * 3 + 1 + 1 + 1 := by omega
    simp only [List.set_cons_succ, cellsP, List.getElem_cons_succ, e]
    rw [cellsP_setK qs xs i k (by simpa using hx) (by simpa using h)]
theorem cellsP_setT : ∀ (qs : List PD) (xs : List Value) (i : Nat) (t : ByteArray) (_ : xs.length = qs.length) (h : i < qs.length), cellsP (qs.set i ⟨qs[i].k, t, qs[i].zs⟩) xs = (cellsP qs xs).set (i * 3 + 1) (.string t)
  | q :: qs, x :: xs, 0, t, _, _ => rfl
  | q :: qs, x :: xs, i + 1, t, hx, h => by
    have e : (i + 1) * 3 + 1 = i * 3 + 1 + 1 + 1 + 1 := by omega
    simp only [List.set_cons_succ, cellsP, List.getElem_cons_succ, e]
    rw [cellsP_setT qs xs i t (by simpa using hx) (by simpa using h)]
theorem cellsP_setZ : ∀ (qs : List PD) (xs : List Value) (i : Nat) (z : List Int) (_ : xs.length = qs.length) (h : i < qs.length), cellsP (qs.set i ⟨qs[i].k, qs[i].t, z⟩) xs = cellsP qs xs
  | q :: qs, x :: xs, 0, z, _, _ => rfl
  | q :: qs, x :: xs, i + 1, z, hx, h => by
    simp only [List.set_cons_succ, cellsP, List.getElem_cons_succ]
    rw [cellsP_setZ qs xs i z (by simpa using hx) (by simpa using h)]

/-- A store of a Kind. -/
theorem OwnP.setK {W : World} {B g cap : Nat} {qs : List PD} (h : OwnP W B (.slice (some ⟨g, 0, none⟩) qs.length cap) qs) (i : Nat) (hi : i < qs.length) (k : Int) :
    OwnP (W.setCell ⟨g, i * 3, none⟩ (.int .i64 k)) B (.slice (some ⟨g, 0, none⟩) qs.length cap) (qs.set i ⟨k, qs[i].t, qs[i].zs⟩) := by
  obtain ⟨xs, h1, h2, h3, h4⟩ := h
  have hs := World.ownsRow.stored h2 (i * 3) (.int .i64 k)
  refine ⟨xs, by rw [List.length_set]; exact h1, ?_, fun j hp hx => ?_, h4⟩
  · rw [List.length_set, cellsP_setK qs xs i k h1 hi]; exact hs.1
  · have hj : j < qs.length := by simpa using hp
    have e : (qs.set i ⟨k, qs[i].t, qs[i].zs⟩)[j].zs = qs[j].zs := by
      rw [List.getElem_set]
      split
      · next e => subst e; rfl
      · rfl
    rw [e]
    exact (h3 j hj hx).grow hs.2 (fun b hb => by rw [Option.some.injEq] at hb; subst hb; exact rows_apart h2 (h3 j hj hx) _ rfl)
/-- A store of a Text. -/
theorem OwnP.setT {W : World} {B g cap : Nat} {qs : List PD} (h : OwnP W B (.slice (some ⟨g, 0, none⟩) qs.length cap) qs) (i : Nat) (hi : i < qs.length) (t : ByteArray) :
    OwnP (W.setCell ⟨g, i * 3 + 1, none⟩ (.string t)) B (.slice (some ⟨g, 0, none⟩) qs.length cap) (qs.set i ⟨qs[i].k, t, qs[i].zs⟩) := by
  obtain ⟨xs, h1, h2, h3, h4⟩ := h
  have hs := World.ownsRow.stored h2 (i * 3 + 1) (.string t)
  refine ⟨xs, by rw [List.length_set]; exact h1, ?_, fun j hp hx => ?_, h4⟩
  · rw [List.length_set, cellsP_setT qs xs i t h1 hi]; exact hs.1
  · have hj : j < qs.length := by simpa using hp
    have e : (qs.set i ⟨qs[i].k, t, qs[i].zs⟩)[j].zs = qs[j].zs := by
      rw [List.getElem_set]
      split
      · next e => subst e; rfl
      · rfl
    rw [e]
    exact (h3 j hj hx).grow hs.2 (fun b hb => by rw [Option.some.injEq] at hb; subst hb; exact rows_apart h2 (h3 j hj hx) _ rfl)

/-- What a part's numbers are, to be marked; and the list behind it. -/
theorem OwnP.nums {W : World} {B g cap : Nat} {qs : List PD} (h : OwnP W B (.slice (some ⟨g, 0, none⟩) qs.length cap) qs) (i : Nat) (hi : i < qs.length) :
    ∃ x, W.cell? ⟨g, i * 3 + 2, none⟩ = some x ∧ Own W B x qs[i].zs ∧ ∀ W' z, W'.heap.size = W.heap.size → W.grownBy W' x.ownBlock → Own W' B x z → OwnP W' B (.slice (some ⟨g, 0, none⟩) qs.length cap) (qs.set i ⟨qs[i].k, qs[i].t, z⟩) := by
  obtain ⟨xs, h1, h2, h3, h4⟩ := h
  have hxi : i < xs.length := by omega
  refine ⟨xs[i], (World.ownsRow.cellAt h2 _ (by omega)).trans (cellsP_get qs xs h1 i hi).2.2, h3 i hi hxi, fun W' z _ hg hz => ⟨xs, by rw [List.length_set]; exact h1, ?_, fun j hp hx => ?_, h4⟩⟩
  · rw [List.length_set, cellsP_setZ qs xs i z h1 hi]
    refine World.ownsRow.kept h2 hg (.inr fun e => ?_)
    exact rows_apart h2 (h3 i hi hxi) _ rfl e.symm
  · have hj : j < qs.length := by simpa using hp
    by_cases e : i = j
    · subst e
      rw [List.getElem_set_self]
      exact hz
    · rw [List.getElem_set_ne e]
      refine (h3 j hj hx).grow hg (fun b hb hb2 => ?_)
      rcases Nat.lt_or_ge i j with hlt | hge
      · have := List.pairwise_iff_getElem.1 h4 i j hxi hx hlt b b hb hb2
        omega
      · have := List.pairwise_iff_getElem.1 h4 j i hx hxi (by omega) b b hb2 hb
        omega

set_option maxRecDepth 100000 in
set_option maxHeartbeats 4000000 in
theorem markParts_any (W : World) (B : Nat) (v : Value) (ps : List PD) (k0 : Nat) (h : OwnP W B v ps) (hBW : B ≤ W.heap.size) (hl : ps.length ≤ 10) (hz : ∀ p ∈ ps, p.zs.length ≤ 128) (hk0 : 1 ≤ k0) (hk1 : k0 ≤ 1000) :
    Calls Try.prog 15 #[v, .int .i64 (k0 : Int)] W fun e W' => e = .returned (.int .i64 (endK ps k0 : Int)) ∧ OwnP W' B v (markAll ps k0) ∧ Below B W W' ∧ W.heap.size ≤ W'.heap.size := by
  by_cases hnil : ps = []
  · subst hnil
    obtain ⟨a, cap, rfl⟩ := h.shape
    have HO : Hid (OwnP W B (.slice a 0 cap) []) := h
    simp only [List.length_nil]
    clear h hz
    go_enter Try.func15, Try.ntmps15
    go_wp2
    refine wp_loop_rounds 1 ?_
    rw [rounds_succ]
    go_wp2
    go_ret
    exact ⟨rfl, HO.out, Below.refl _ _, Nat.le_refl _⟩
  · obtain ⟨g, cap, hv, hgB⟩ : ∃ g cap, v = .slice (some ⟨g, 0, none⟩) ps.length cap ∧ B ≤ g := by
      obtain ⟨xs, -, h2, -⟩ := h
      rcases h2.2 with ⟨-, hn⟩ | ⟨g, cap, cur, hv, hb, -⟩
      · exact absurd (List.eq_nil_of_length_eq_zero hn) hnil
      · exact ⟨g, cap, hv, hb⟩
    subst hv
    have HO : Hid (OwnP W B (.slice (some ⟨g, 0, none⟩) ps.length cap) ps) := h
    have HZ : Hid (∀ p ∈ ps, p.zs.length ≤ 128) := hz
    have HW0 : Hid (Below B W W ∧ W.heap.size ≤ W.heap.size) := ⟨Below.refl _ _, Nat.le_refl _⟩
    clear h hz hnil
    go_enter Try.func15, Try.ntmps15
    go_wp2
    go_loopw [1, 5] (fun x i wr => ∃ j : Nat, j ≤ ps.length ∧ i = .int .i64 (j : Int) ∧ x = .int .i64 (endK (ps.take j) k0 : Int) ∧ Hid (OwnP wr B (.slice (some ⟨g, 0, none⟩) ps.length cap) (half ps k0 j)) ∧ Hid (Below B W wr ∧ W.heap.size ≤ wr.heap.size)) (fun _ i _ => ps.length - (intOf i).toNat)
    case atStart => exact ⟨0, Nat.zero_le _, rfl, rfl, by show OwnP _ _ _ _; simpa [half, markAll] using HO.out, HW0⟩
    case round =>
      obtain ⟨j, hj, rfl, rfl, HK, HB⟩ := hrel
      have hbd := endK_bd (ps.take j) k0 128 (fun p hp => HZ.out p (List.mem_of_mem_take hp))
      have hjt : (ps.take j).length = j := by rw [List.length_take]; omega
      rw [hjt] at hbd
      by_cases hlt : j < ps.length
      · have hlt' : (j : Int) < (ps.length : Int) := by omega
        have hhl := half_len ps k0 j hj
        have hj2 : j < (half ps k0 j).length := by omega
        have hha := half_at ps k0 j hlt hj2
        have HNX : Hid (half ps k0 (j + 1) = (half ps k0 j).set j (markP ps[j] (endK (ps.take j) k0))) := half_next ps k0 j hlt
        have HEN : Hid (endK (ps.take (j + 1)) k0 = endK (ps.take j) k0 + 2 + ps[j].zs.length) := by show _ = _; rw [List.take_succ_eq_append_getElem hlt, endK_snoc]
        have hz128 : ps[j].zs.length ≤ 128 := HZ.out _ (List.getElem_mem hlt)
        have hO := HK.out
        rw [← hhl] at hO
        generalize half ps k0 j = qs at *
        have hK1 := hO.setK j hj2 (endK (ps.take j) k0 : Int)
        obtain ⟨c, hc⟩ : ∃ c, c = endK (ps.take j) k0 := ⟨_, rfl⟩
        rw [← hc] at hK1 HNX HEN hbd ⊢
        have HCC : Hid (c = endK (ps.take j) k0) := hc
        clear hc
        obtain ⟨xs, x1, x2, -, -⟩ := hO
        obtain ⟨r0, q0⟩ : ∃ r0, wr.cell? ⟨g, j * 3, none⟩ = some r0 := ⟨_, (World.ownsRow.cellAt x2 (j * 3) (by omega)).trans (cellsP_get qs xs x1 j hj2).1⟩
        have f0 := World.ownsRow.frozenAt x2 (j * 3)
        clear x2 x1
        have hc1 : ((c : Int) + 1) = ((c + 1 : Nat) : Int) := by omega
        obtain ⟨W1, hW1⟩ : ∃ W1, W1 = wr.setCell ⟨g, j * 3, none⟩ (.int .i64 (c : Int)) := ⟨_, rfl⟩
        have HW1 : Hid (Below B W W1 ∧ W.heap.size ≤ W1.heap.size) := by
          refine ⟨?_, ?_⟩
          · rw [hW1]; exact HB.out.1.setCell hgB _
          · rw [hW1]; simpa [World.setCell] using HB.out.2
        have HK1 : Hid (OwnP W1 B (.slice (some ⟨g, 0, none⟩) ps.length cap) (qs.set j ⟨(c : Int), ps[j].t, ps[j].zs⟩)) := by
          rw [hW1, ← hha, ← hhl]; exact hK1
        have HLQ : Hid (qs.length = ps.length) := hhl
        have HMT : Hid (Calls Try.prog 43 #[.int .i64 ((c : Int) + 1)] W1 fun e W' => e = .returned (.string (mtext (c + 1))) ∧ Below W1.heap.size W1 W') := by
          rw [hc1]; exact markText_any (c + 1) W1 (by omega) (by omega)
        have hcb : c ≤ 100000 := by omega
        have HWE : Hid (wr.setCell ⟨g, j * 3, none⟩ (.int .i64 (c : Int)) = W1) := hW1.symm
        clear hK1 hc1 hW1 hhl hha hbd hjt
        generalize ps[j] = p at *
        go_wp2_with fail
        rw [HWE.out]
        refine HMT.out.mono ?_
        rintro e w2 ⟨rfl, hb2⟩
        have hK2 := HK1.out.below hb2
        have hl2 : (qs.set j ⟨(c : Int), p.t, p.zs⟩).length = ps.length := by rw [List.length_set]; exact HLQ.out
        have hjl : j < (qs.set j ⟨(c : Int), p.t, p.zs⟩).length := by omega
        rw [← hl2] at hK2
        have hg2 : (qs.set j ⟨(c : Int), p.t, p.zs⟩)[j] = ⟨(c : Int), p.t, p.zs⟩ := List.getElem_set_self _
        have hK3 := hK2.setT j hjl (mtext (c + 1))
        rw [hg2, List.set_set] at hK3
        obtain ⟨xs, x1, x2, -, -⟩ := hK2
        obtain ⟨r1, q1⟩ : ∃ r1, w2.cell? ⟨g, j * 3 + 1, none⟩ = some r1 := ⟨_, (World.ownsRow.cellAt x2 (j * 3 + 1) (by omega)).trans (cellsP_get _ xs x1 j hjl).2.1⟩
        have f1 := World.ownsRow.frozenAt x2 (j * 3 + 1)
        clear x2 x1
        obtain ⟨W3, hW3⟩ : ∃ W3, W3 = w2.setCell ⟨g, j * 3 + 1, none⟩ (.string (mtext (c + 1))) := ⟨_, rfl⟩
        have HW3 : Hid (Below B W W3 ∧ W.heap.size ≤ W3.heap.size) := by
          refine ⟨?_, ?_⟩
          · rw [hW3]; exact (HW1.out.1.trans (hb2.mono (Nat.le_trans hBW HW1.out.2))).setCell hgB _
          · rw [hW3]; simpa [World.setCell] using Nat.le_trans HW1.out.2 hb2.size
        rw [← hW3] at hK3
        have hl3 : (qs.set j ⟨(c : Int), mtext (c + 1), p.zs⟩).length = ps.length := by rw [List.length_set]; exact HLQ.out
        have hj3 : j < (qs.set j ⟨(c : Int), mtext (c + 1), p.zs⟩).length := by omega
        rw [hl2, ← hl3] at hK3
        obtain ⟨x, hx, hox, hfin⟩ := hK3.nums j hj3
        have hg3 : (qs.set j ⟨(c : Int), mtext (c + 1), p.zs⟩)[j] = ⟨(c : Int), mtext (c + 1), p.zs⟩ := List.getElem_set_self _
        rw [hg3] at hox
        have HFIN : Hid (∀ W', W'.heap.size = W3.heap.size → W3.grownBy W' x.ownBlock → Own W' B x (marks ((c : Int) + 1 + 1) p.zs.length) → OwnP W' B (.slice (some ⟨g, 0, none⟩) ps.length cap) (qs.set j (markP p c))) := fun W' e1 e2 e3 => by
          have := hfin W' _ e1 e2 e3
          rw [hg3, List.set_set, hl3] at this
          have em : (⟨(c : Int), mtext (c + 1), marks ((c : Int) + 1 + 1) p.zs.length⟩ : PD) = markP p c := by
            unfold markP
            rw [show ((c : Int) + 1 + 1) = ((c + 2 : Nat) : Int) from by omega]
          rw [← em]
          exact this
        have HOX : Hid (Own W3 B x p.zs) := hox
        have HWE3 : Hid (w2.setCell ⟨g, j * 3 + 1, none⟩ (.string (mtext (c + 1))) = W3) := hW3.symm
        have hx2 : (w2.setCell ⟨g, j * 3 + 1, none⟩ (.string (mtext (c + 1)))).cell? ⟨g, j * 3 + 2, none⟩ = some x := by rw [HWE3.out]; exact hx
        have hx2' : w2.cell? ⟨g, j * 3 + 2, none⟩ = some x := by rw [World.cell?_setCell_other _ _ _ _ (by simp)] at hx2; exact hx2
        obtain ⟨ax, cx, hxs⟩ := hox.shape
        subst hxs
        clear hK3 hb2 hW3 hfin hox hx hl2 hl3 hjl hj3 hg2 hg3 hx2
        go_wp2_with fail
        rw [HWE3.out]
        refine (markInts_any W3 B _ ((c : Int) + 1 + 1) p.zs HOX.out (by omega) (by omega) (by omega)).mono ?_
        rintro e w4 ⟨rfl, ho4, hz4, hg4⟩
        have HK4 : Hid (OwnP w4 B (.slice (some ⟨g, 0, none⟩) ps.length cap) (half ps k0 (j + 1))) := by
          show OwnP _ _ _ _
          rw [HNX.out]
          exact HFIN.out w4 hz4 hg4 ho4
        have HW4 : Hid (Below B W w4 ∧ W.heap.size ≤ w4.heap.size) :=
          ⟨HW3.out.1.grown hg4 (Nat.le_trans hBW HW3.out.2) (fun k hk => (World.ownsRow.lt HOX.out k hk).1), by rw [hz4]; exact HW3.out.2⟩
        clear ho4 hz4 hg4
        go_wp2
        go_roundw
        case rel => exact ⟨j + 1, by omega, by go_num, val_of (by rw [HEN.out]; omega), HK4, HW4⟩
        case measure => simp [intOf]; omega
      · have hlt' : ¬ (j : Int) < (ps.length : Int) := by omega
        have e : j = ps.length := by omega
        have HF : Hid (endK (ps.take j) k0 = endK ps k0) := by show _ = _; rw [e, List.take_length]
        have HK4 : Hid (OwnP wr B (.slice (some ⟨g, 0, none⟩) ps.length cap) (markAll ps k0)) := by
          have := HK.out
          rw [e, half_all] at this
          exact this
        clear e
        go_wp2
        go_ret
        exact ⟨by rw [← HF.out]; rfl, HK4.out, HB.out.1, HB.out.2⟩
end Go.Proofs.Ytiknpoclolnhhas
