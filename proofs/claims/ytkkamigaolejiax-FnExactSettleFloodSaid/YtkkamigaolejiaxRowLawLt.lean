/-
  What the laws' functions over lists of letters answer: 'sz', 'to', 'eq', 'mark', 'held'.
-/
import Derived.Test.YtkkamigaolejiaxRowLt
namespace Go.Proofs.Ytkkamigaolejiax
open Go.RowKit
set_option linter.unusedVariables false

theorem szLts_any (W : World) (v : Value) (hs : List LtD) (left : Int) (h : ReadsLt W v hs) (hl : hs.length ≤ maxLen) (h0 : 0 ≤ left) (h1 : left ≤ 1048576) :
    Calls Try.prog 22 #[v, .int .i64 left] W fun e W' => e = .returned (.int .i64 (if (hs.length : Int) ≤ left then left - hs.length else -1)) ∧ W' = W := by
  obtain ⟨a1, c1, rfl⟩ := h.shape
  unfold maxLen at hl
  clear h
  by_cases hle : (hs.length : Int) ≤ left
  · rw [if_pos hle]
    have e : ¬ (left - (hs.length : Int) < 0) := by omega
    go_enter Try.func22, Try.ntmps22
    go_wp2
    go_ret
    exact ⟨rfl, rfl⟩
  · rw [if_neg hle]
    have e : left - (hs.length : Int) < 0 := by omega
    go_enter Try.func22, Try.ntmps22
    go_wp2
    go_ret
    exact ⟨rfl, rfl⟩

theorem toEn_any (W : World) (f q : Int) : Calls Try.prog 75 #[.agg #[.int .i64 f, .int .i64 q]] W fun e W' => e = .returned (.agg #[.int .i64 f, .int .i64 q]) ∧ Below W.heap.size W W' := by
  go_enter Try.func75, Try.ntmps75
  go_wp2
  refine bodyPost_ret (v := .agg #[.int .i64 f, .int .i64 q]) (by simp [results, Try.results75, go_sem]) rfl ⟨rfl, ?_⟩
  exact (((Below.refl _ W).alloc (Nat.le_refl _) _).alloc (by simp) _).alloc (by simp; omega) _

/-- Five cells at a block's head, free to be written. -/
structure Bx5 (W : World) (b : Nat) (x y z u v : Value) : Prop where
  lt : b < W.heap.size
  c0 : W.cell? ⟨b, 0, none⟩ = some x
  c1 : W.cell? ⟨b, 1, none⟩ = some y
  c2 : W.cell? ⟨b, 2, none⟩ = some z
  c3 : W.cell? ⟨b, 3, none⟩ = some u
  c4 : W.cell? ⟨b, 4, none⟩ = some v
  fz : ∀ j, W.frozen? ⟨b, j, none⟩ = false
theorem Bx5.below {W W' : World} {b : Nat} {x y z u v : Value} (h : Bx5 W b x y z u v) (hb : Below W.heap.size W W') : Bx5 W' b x y z u v :=
  ⟨Nat.lt_of_lt_of_le h.lt hb.size, (hb.cell (p := ⟨b, 0, none⟩) h.lt).trans h.c0, (hb.cell (p := ⟨b, 1, none⟩) h.lt).trans h.c1, (hb.cell (p := ⟨b, 2, none⟩) h.lt).trans h.c2, (hb.cell (p := ⟨b, 3, none⟩) h.lt).trans h.c3, (hb.cell (p := ⟨b, 4, none⟩) h.lt).trans h.c4, fun j => (hb.frozen (p := ⟨b, j, none⟩) h.lt).trans (h.fz j)⟩
theorem Bx5.new (W : World) (x y z u v : Value) (t : TypeId) : Bx5 (W.alloc (.cells #[x, y, z, u, v] t)) W.heap.size x y z u v := by
  refine ⟨by simp, ?_, ?_, ?_, ?_, ?_, fun j => ?_⟩
  all_goals first | (rw [World.cell?_alloc_at _ _ _ _ rfl]; rfl) | exact World.frozen?_alloc_at _ _ _ _ rfl
theorem Bx5.far {W : World} {b : Nat} {x y z u v : Value} (h : Bx5 W b x y z u v) {o : Obj} : Bx5 (W.alloc o) b x y z u v := h.below ((Below.refl _ W).alloc (Nat.le_refl _) _)

set_option maxRecDepth 100000 in
theorem toLt_any (W : World) (x : LtD) : Calls Try.prog 56 #[.agg #[.int .i64 x.tt, .int .i64 x.bb, .int .i64 x.fr, .int .i64 x.sq, .bool x.ak]] W fun e W' => e = .returned (.agg #[.int .i64 x.tt, .int .i64 x.bb, .int .i64 x.fr, .int .i64 x.sq, .bool x.ak]) ∧ Below W.heap.size W W' := by
  have H0 : Hid (Bx5 (((W.alloc (.cells #[.int .i64 x.tt, .int .i64 x.bb, .int .i64 x.fr, .int .i64 x.sq, .bool x.ak] 84)).alloc (.cells #[.int .i64 0, .int .i64 0, .int .i64 0, .int .i64 0, .bool false] 66)).alloc (.cells #[.int .i64 x.tt, .int .i64 x.bb, .int .i64 0, .int .i64 0, .bool false] 66)) W.heap.size (.int .i64 x.tt) (.int .i64 x.bb) (.int .i64 x.fr) (.int .i64 x.sq) (.bool x.ak)) := (Bx5.new _ _ _ _ _ _ _).far.far
  have H1 : Hid (Bx5 (((W.alloc (.cells #[.int .i64 x.tt, .int .i64 x.bb, .int .i64 x.fr, .int .i64 x.sq, .bool x.ak] 84)).alloc (.cells #[.int .i64 0, .int .i64 0, .int .i64 0, .int .i64 0, .bool false] 66)).alloc (.cells #[.int .i64 x.tt, .int .i64 x.bb, .int .i64 0, .int .i64 0, .bool false] 66)) (W.heap.size + 1) (.int .i64 0) (.int .i64 0) (.int .i64 0) (.int .i64 0) (.bool false)) := by
    have := (Bx5.new (W.alloc (.cells #[.int .i64 x.tt, .int .i64 x.bb, .int .i64 x.fr, .int .i64 x.sq, .bool x.ak] 84)) (.int .i64 0) (.int .i64 0) (.int .i64 0) (.int .i64 0) (.bool false) 66).far (o := .cells #[.int .i64 x.tt, .int .i64 x.bb, .int .i64 0, .int .i64 0, .bool false] 66)
    show Bx5 _ _ _ _ _ _ _
    simpa using this
  have H2 : Hid (Bx5 (((W.alloc (.cells #[.int .i64 x.tt, .int .i64 x.bb, .int .i64 x.fr, .int .i64 x.sq, .bool x.ak] 84)).alloc (.cells #[.int .i64 0, .int .i64 0, .int .i64 0, .int .i64 0, .bool false] 66)).alloc (.cells #[.int .i64 x.tt, .int .i64 x.bb, .int .i64 0, .int .i64 0, .bool false] 66)) (W.heap.size + 1 + 1) (.int .i64 x.tt) (.int .i64 x.bb) (.int .i64 0) (.int .i64 0) (.bool false)) := by
    have := Bx5.new ((W.alloc (.cells #[.int .i64 x.tt, .int .i64 x.bb, .int .i64 x.fr, .int .i64 x.sq, .bool x.ak] 84)).alloc (.cells #[.int .i64 0, .int .i64 0, .int .i64 0, .int .i64 0, .bool false] 66)) (.int .i64 x.tt) (.int .i64 x.bb) (.int .i64 0) (.int .i64 0) (.bool false) 66
    show Bx5 _ _ _ _ _ _ _
    simpa using this
  have HB : Hid (Below W.heap.size W (((W.alloc (.cells #[.int .i64 x.tt, .int .i64 x.bb, .int .i64 x.fr, .int .i64 x.sq, .bool x.ak] 84)).alloc (.cells #[.int .i64 0, .int .i64 0, .int .i64 0, .int .i64 0, .bool false] 66)).alloc (.cells #[.int .i64 x.tt, .int .i64 x.bb, .int .i64 0, .int .i64 0, .bool false] 66))) := (((Below.refl _ W).alloc (Nat.le_refl _) _).alloc (by simp) _).alloc (by simp; omega) _
  go_enter Try.func56, Try.ntmps56
  go_wp2_with fail
  generalize (((W.alloc (.cells #[.int .i64 x.tt, .int .i64 x.bb, .int .i64 x.fr, .int .i64 x.sq, .bool x.ak] 84)).alloc (.cells #[.int .i64 0, .int .i64 0, .int .i64 0, .int .i64 0, .bool false] 66)).alloc (.cells #[.int .i64 x.tt, .int .i64 x.bb, .int .i64 0, .int .i64 0, .bool false] 66)) = w0 at *
  refine (toEn_any _ x.fr x.sq).mono ?_
  rintro e w1 ⟨rfl, hb⟩
  have HB1 : Hid (Below W.heap.size W w1) := HB.out.trans (hb.mono HB.out.size)
  obtain ⟨-, p0, p1, p2, p3, p4, pf⟩ := H0.out.below hb
  obtain ⟨-, q0, q1, q2, q3, q4, qf⟩ := H1.out.below hb
  obtain ⟨-, r0, r1, r2, r3, r4, rf⟩ := H2.out.below hb
  have qf0 := qf 0
  have qf1 := qf 1
  have qf2 := qf 2
  have qf3 := qf 3
  have qf4 := qf 4
  have rf2 := rf 2
  have rf3 := rf 3
  have rf4 := rf 4
  clear hb H0 H1 H2 HB pf qf rf
  go_wp2
  refine bodyPost_ret (v := .agg #[.int .i64 x.tt, .int .i64 x.bb, .int .i64 x.fr, .int .i64 x.sq, .bool x.ak]) (by simp [results, Try.results56, go_sem, q0, q1, q2, q3, q4]) rfl ⟨rfl, ?_⟩
  exact (((((((HB1.out.setCell (by simp; omega) _).setCell (by simp; omega) _).setCell (by simp; omega) _).setCell (by simp) _).setCell (by simp) _).setCell (by simp) _).setCell (by simp) _).setCell (by simp) _

def noLt : LtD := ⟨0, 0, 0, 0, false⟩
theorem madeLt : ∀ n : Nat, (madeCells #[.int .i64 0, .int .i64 0, .int .i64 0, .int .i64 0, .bool false] (n * 5)).toList = cellsLt (List.replicate n noLt)
  | 0 => by simp [madeCells, cellsLt]
  | n + 1 => by
    have e : (n + 1) * 5 = n * 5 + 1 + 1 + 1 + 1 + 1 := by omega
    have ih := madeLt n
    have m0 : (n * 5) % 5 = 0 := by omega
    have m1 : (n * 5 + 1) % 5 = 1 := by omega
    have m2 : (n * 5 + 1 + 1) % 5 = 2 := by omega
    have m3 : (n * 5 + 1 + 1 + 1) % 5 = 3 := by omega
    have m4 : (n * 5 + 1 + 1 + 1 + 1) % 5 = 4 := by omega
    rw [List.replicate_succ', cellsLt_app, ← ih, e]
    unfold madeCells
    simp [Array.range_succ, cellsLt, m0, m1, m2, m3, m4, noLt]

theorem makeLts (n : Nat) (hn : n ≤ 4194304) (w : World) : ∃ W1 : World,
    (Instr.makeSlice 29 (.int .i64 (n : Int)) (.int .i64 (n : Int))).run Try.prog w = .ok (.slice (some ⟨w.heap.size, 0, none⟩) n n) W1 ∧
    OwnLt W1 w.heap.size (.slice (some ⟨w.heap.size, 0, none⟩) n n) (List.replicate n noLt) ∧ Below w.heap.size w W1 ∧ w.heap.size < W1.heap.size := by
  obtain ⟨i0, hi, hz0, hz1, hz2⟩ := info_parts infoLt
  obtain ⟨w', hr, ho, hg⟩ := run_make_full (P := Try.prog) w w.heap.size 29 66 i0 _ 5 Try.underlying29 hi hz0 hz1 .i64 .i64 n (by rw [hz2]; omega) (by unfold maxLen; omega) (Nat.le_refl _)
  have hlt := (World.ownsRow.lt ho w.heap.size rfl).2
  refine ⟨w', hr, ?_, (Below.refl _ w).grown hg (Nat.le_refl _) (fun k hk => by cases hk), hlt⟩
  unfold OwnLt
  rw [List.length_replicate]
  rw [show (Value.agg #[.int .i64 0, .int .i64 0, .int .i64 0, .int .i64 0, .bool false]).cells = #[.int .i64 0, .int .i64 0, .int .i64 0, .int .i64 0, .bool false] from rfl, madeLt] at ho
  exact ho

/-- The list of which the first k are copied. -/
theorem to_nextLt (hs : List LtD) (k : Nat) (h : k < hs.length) : hs.take (k + 1) ++ List.replicate (hs.length - (k + 1)) noLt = (hs.take k ++ List.replicate (hs.length - k) noLt).set k hs[k] := by
  have e : hs.length - k = (hs.length - (k + 1)) + 1 := by omega
  rw [e, List.replicate_succ, List.set_append_right _ _ (by simp; omega), List.take_succ_eq_append_getElem h]
  have e2 : k - (hs.take k).length = 0 := by simp; omega
  rw [e2, List.set_cons_zero, List.append_assoc]
  rfl

set_option maxRecDepth 100000 in
set_option maxHeartbeats 2000000 in
theorem toLts_any (W : World) (v : Value) (hs : List LtD) (h : ReadsLt W v hs) (hl : hs.length ≤ 4194304) :
    Calls Try.prog 27 #[v] W fun e W' => ∃ v', e = .returned v' ∧ OwnLt W' W.heap.size v' hs ∧ Below W.heap.size W W' := by
  obtain ⟨a1, cap1, rfl, hc1⟩ := h
  obtain ⟨W1, hmake, ho, hb, hlt⟩ := makeLts hs.length hl W
  obtain ⟨H, hH⟩ : ∃ H, H = W.heap.size := ⟨_, rfl⟩
  rw [← hH] at hmake ho hb hlt ⊢
  have HB : Hid (Below H W W1) := hb
  have HO : Hid (OwnLt W1 H (.slice (some ⟨H, 0, none⟩) hs.length hs.length) (List.replicate hs.length noLt)) := ho
  have HHW : Hid (H = W.heap.size) := hH
  have HLT : Hid (H < W1.heap.size) := hlt
  clear ho hb hH hlt
  rcases hc1 with rfl | ⟨g1, o1, rfl, hg1, hc1⟩
  · simp only [List.length_nil] at HO ⊢
    have hm0 : (Instr.makeSlice 29 (.int .i64 0) (.int .i64 0)).run Try.prog W = .ok (.slice (some ⟨H, 0, none⟩) 0 0) W1 := hmake
    clear hmake
    go_enter Try.func27, Try.ntmps27
    go_wp2
    refine wp_loop_rounds 1 ?_
    rw [rounds_succ]
    go_wp2
    go_ret
    exact ⟨_, rfl, HO.out, HB.out⟩
  · have HC1 : Hid (∀ wr, Below H W wr → ∀ j (hj : j < hs.length), LtAt wr g1 (o1 + j * 5) hs[j]) := fun wr hS j hj => (hc1 j hj).below hg1 (by rw [← HHW.out]; exact hS)
    clear hc1
    go_enter Try.func27, Try.ntmps27
    go_wp2
    go_loopw [4] (fun i wr => ∃ k : Nat, k ≤ hs.length ∧ i = .int .i64 k ∧ Hid (OwnLt wr H (.slice (some ⟨H, 0, none⟩) hs.length hs.length) (hs.take k ++ List.replicate (hs.length - k) noLt) ∧ Below H W wr ∧ H < wr.heap.size)) (fun i _ => hs.length - (intOf i).toNat)
    case atStart => exact ⟨0, Nat.zero_le _, rfl, by simpa using HO.out, HB.out, HLT.out⟩
    case round =>
      obtain ⟨k, hk, rfl, HK⟩ := hrel
      by_cases hlt2 : k < hs.length
      · obtain ⟨hown, hbr, hHr⟩ := HK.out
        obtain ⟨q0, q1, q2, q3, q4⟩ := HC1.out wr hbr k hlt2
        have HNX : Hid (hs.take (k + 1) ++ List.replicate (hs.length - (k + 1)) noLt = (hs.take k ++ List.replicate (hs.length - k) noLt).set k hs[k]) := to_nextLt hs k hlt2
        have hlt' : (k : Int) < (hs.length : Int) := by omega
        have HLQ : Hid ((hs.take k ++ List.replicate (hs.length - k) noLt).length = hs.length) := by show _ = _; simp; omega
        generalize hs[k] = x at *
        have HOW : Hid (OwnLt wr H (.slice (some ⟨H, 0, none⟩) hs.length hs.length) (hs.take k ++ List.replicate (hs.length - k) noLt)) := hown
        have HBR : Hid (Below H W wr) := hbr
        have HHR : Hid (H < wr.heap.size) := hHr
        clear hown hbr hHr HK
        go_wp2_with fail
        refine (toLt_any _ x).mono ?_
        rintro e w2 ⟨rfl, hb2⟩
        have hO2 := HOW.out.below hb2
        generalize hs.take k ++ List.replicate (hs.length - k) noLt = qs at *
        have hql := HLQ.out
        have hO3 : OwnLt w2 H (.slice (some ⟨H, 0, none⟩) qs.length hs.length) qs := by rw [hql]; exact hO2
        have z0 : ∀ j, j < hs.length * 5 → ∃ c, w2.cell? ⟨H, j, none⟩ = some c := fun j hj => ⟨_, by rw [World.ownsRow.cellAt hO3 j (by omega)]; exact List.getElem?_eq_getElem (by rw [cellsLt_len]; omega)⟩
        obtain ⟨d0, f0⟩ := z0 (k * 5) (by omega)
        obtain ⟨d1, f1⟩ := z0 (k * 5 + 1) (by omega)
        obtain ⟨d2, f2⟩ := z0 (k * 5 + 2) (by omega)
        obtain ⟨d3, f3⟩ := z0 (k * 5 + 3) (by omega)
        obtain ⟨d4, f4⟩ := z0 (k * 5 + 4) (by omega)
        have fz0 := World.ownsRow.frozenAt hO3 (k * 5)
        have fz1 := World.ownsRow.frozenAt hO3 (k * 5 + 1)
        have fz2 := World.ownsRow.frozenAt hO3 (k * 5 + 2)
        have fz3 := World.ownsRow.frozenAt hO3 (k * 5 + 3)
        have fz4 := World.ownsRow.frozenAt hO3 (k * 5 + 4)
        have HON : Hid (OwnLt ((((((w2).setCell ⟨H, k * 5, none⟩ (.int .i64 x.tt)).setCell ⟨H, k * 5 + 1, none⟩ (.int .i64 x.bb)).setCell ⟨H, k * 5 + 2, none⟩ (.int .i64 x.fr)).setCell ⟨H, k * 5 + 3, none⟩ (.int .i64 x.sq)).setCell ⟨H, k * 5 + 4, none⟩ (.bool x.ak)) H (.slice (some ⟨H, 0, none⟩) hs.length hs.length) (qs.set k x)) := by
          have := hO3.set k (by omega) x
          rw [hql] at this
          exact this
        have HBN : Hid (Below H W ((((((w2).setCell ⟨H, k * 5, none⟩ (.int .i64 x.tt)).setCell ⟨H, k * 5 + 1, none⟩ (.int .i64 x.bb)).setCell ⟨H, k * 5 + 2, none⟩ (.int .i64 x.fr)).setCell ⟨H, k * 5 + 3, none⟩ (.int .i64 x.sq)).setCell ⟨H, k * 5 + 4, none⟩ (.bool x.ak))) :=
          (((((HBR.out.trans (hb2.mono (Nat.le_of_lt HHR.out))).setCell (Nat.le_refl _) _).setCell (Nat.le_refl _) _).setCell (Nat.le_refl _) _).setCell (Nat.le_refl _) _).setCell (Nat.le_refl _) _
        have HHN : Hid (H < ((((((w2).setCell ⟨H, k * 5, none⟩ (.int .i64 x.tt)).setCell ⟨H, k * 5 + 1, none⟩ (.int .i64 x.bb)).setCell ⟨H, k * 5 + 2, none⟩ (.int .i64 x.fr)).setCell ⟨H, k * 5 + 3, none⟩ (.int .i64 x.sq)).setCell ⟨H, k * 5 + 4, none⟩ (.bool x.ak)).heap.size) := by
          have := Nat.lt_of_lt_of_le HHR.out hb2.size
          show _ < _
          simpa [World.setCell] using this
        clear hb2 hO2 hO3 z0 HOW hql
        go_wp2
        go_roundw
        case rel => exact ⟨k + 1, by omega, by go_num, by rw [HNX.out]; exact HON.out, HBN.out, HHN.out⟩
        case measure => simp [intOf]; omega
      · have hlt' : ¬ (k : Int) < (hs.length : Int) := by omega
        have e : k = hs.length := by omega
        subst e
        have HFIN : Hid (OwnLt wr H (.slice (some ⟨H, 0, none⟩) hs.length hs.length) hs ∧ Below H W wr) := by
          obtain ⟨hown, hbr, -⟩ := HK.out
          exact ⟨by simpa using hown, hbr⟩
        clear HK
        go_wp2
        go_ret
        exact ⟨_, rfl, HFIN.out.1, HFIN.out.2⟩

theorem eqLt_same (W : World) (x : LtD) : Calls Try.prog 67 #[.agg #[.int .i64 x.tt, .int .i64 x.bb, .int .i64 x.fr, .int .i64 x.sq, .bool x.ak], .agg #[.int .i64 x.tt, .int .i64 x.bb, .int .i64 x.fr, .int .i64 x.sq, .bool x.ak]] W fun e W' => e = .returned (.bool true) ∧ Below W.heap.size W W' := by
  go_enter Try.func67, Try.ntmps67
  go_wp2
  go_ret
  exact ⟨rfl, ((((Below.refl _ W).alloc (Nat.le_refl _) _).alloc (by simp) _).alloc (by simp; omega) _).alloc (by simp; omega) _⟩

set_option maxRecDepth 100000 in
set_option maxHeartbeats 2000000 in
theorem eqLts_same (W : World) (v1 v2 : Value) (hs : List LtD) (h1 : ReadsLt W v1 hs) (h2 : ReadsLt W v2 hs) (hl : hs.length ≤ 4194304) :
    Calls Try.prog 32 #[v1, v2] W fun e W' => e = .returned (.bool true) ∧ Below W.heap.size W W' := by
  obtain ⟨a1, cap1, rfl, hc1⟩ := h1
  obtain ⟨a2, cap2, rfl, hc2⟩ := h2
  by_cases hz : hs = []
  · subst hz
    simp only [List.length_nil]
    clear hc1 hc2
    go_enter Try.func32, Try.ntmps32
    go_wp2
    refine wp_loop_rounds 1 ?_
    rw [rounds_succ]
    go_wp2
    go_ret
    exact ⟨rfl, Below.refl _ _⟩
  · obtain ⟨g1, o1, rfl, hg1, hc1⟩ := hc1.resolve_left hz
    obtain ⟨g2, o2, rfl, hg2, hc2⟩ := hc2.resolve_left hz
    have HC1 : Hid (∀ W1, Since W.heap.size W W1 → ∀ j (hj : j < hs.length), LtAt W1 g1 (o1 + j * 5) hs[j]) := fun W1 hS j hj => (hc1 j hj).below hg1 hS.1
    have HC2 : Hid (∀ W1, Since W.heap.size W W1 → ∀ j (hj : j < hs.length), LtAt W1 g2 (o2 + j * 5) hs[j]) := fun W1 hS j hj => (hc2 j hj).below hg2 hS.1
    have HS0 : Hid (Since W.heap.size W W) := Since.start W
    clear hc1 hc2 hz
    go_enter Try.func32, Try.ntmps32
    go_wp2
    go_loopw [5] (fun i wr => ∃ k : Nat, k ≤ hs.length ∧ i = .int .i64 k ∧ Hid (Since W.heap.size W wr)) (fun i _ => hs.length - (intOf i).toNat)
    case atStart => exact ⟨0, Nat.zero_le _, rfl, HS0⟩
    case round =>
      obtain ⟨k, hk, rfl, HS⟩ := hrel
      by_cases hlt : k < hs.length
      · obtain ⟨q0, q1, q2, q3, q4⟩ := HC1.out wr HS.out k hlt
        obtain ⟨r0, r1, r2, r3, r4⟩ := HC2.out wr HS.out k hlt
        have hlt' : (k : Int) < (hs.length : Int) := by omega
        generalize hs[k] = x at *
        go_wp2
        go_region_with (go_at_call 67; refine (eqLt_same _ x).mono ?_; rintro e w1 ⟨rfl, hb⟩)
        all_goals
          have HS1 : Hid (Since W.heap.size W w1) := HS.out.drew.step hb
          clear hb
          go_wp2
          go_roundw
          case rel => exact ⟨k + 1, by omega, by go_num, HS1⟩
          case measure => simp [intOf]; omega
      · have hlt' : ¬ (k : Int) < (hs.length : Int) := by omega
        go_wp2
        go_ret
        exact ⟨rfl, HS.out.1⟩

/-- One with marks from k on; a list so. -/
def markLt (k : Nat) : LtD := ⟨((k : Nat) : Int), ((k + 1 : Nat) : Int), ((k + 2 : Nat) : Int), ((k + 3 : Nat) : Int), decide ((k + 4) % 3 = 0)⟩
def marksLt (k n : Nat) : List LtD := (List.range n).map fun j => markLt (k + 5 * j)
theorem marksLt_len (k n : Nat) : (marksLt k n).length = n := by simp [marksLt]
theorem marksLt_get (k n j : Nat) (h : j < (marksLt k n).length) : (marksLt k n)[j] = markLt (k + 5 * j) := by simp [marksLt]
def markedLt (k : Nat) (hs : List LtD) (i : Nat) : List LtD := marksLt k i ++ hs.drop i
theorem markedLt_len (k : Nat) (hs : List LtD) (i : Nat) (h : i ≤ hs.length) : (markedLt k hs i).length = hs.length := by simp [markedLt, marksLt_len]; omega
theorem markedLt_next (k : Nat) (hs : List LtD) (i : Nat) (h : i < hs.length) : markedLt k hs (i + 1) = (markedLt k hs i).set i (markLt (k + 5 * i)) := by
  unfold markedLt
  have e : hs.drop i = hs[i] :: hs.drop (i + 1) := List.drop_eq_getElem_cons h
  rw [List.set_append_right _ _ (by rw [marksLt_len]; exact Nat.le_refl _), marksLt_len, Nat.sub_self, e, List.set_cons_zero]
  simp [marksLt, List.range_succ]
theorem markedLt_all (k : Nat) (hs : List LtD) : markedLt k hs hs.length = marksLt k hs.length := by simp [markedLt]

set_option maxRecDepth 100000 in
set_option maxHeartbeats 2000000 in
theorem markLts_any (W : World) (B : Nat) (v : Value) (k0 : Nat) (hs : List LtD) (h : OwnLt W B v hs) (hl : hs.length ≤ 4194304) (hk1 : k0 ≤ 1000000000) :
    Calls Try.prog 34 #[v, .int .i64 (k0 : Int)] W fun e W' => e = .returned (.int .i64 ((k0 + 5 * hs.length : Nat) : Int)) ∧ OwnLt W' B v (marksLt k0 hs.length) ∧ W'.heap.size = W.heap.size ∧ W.grownBy W' v.ownBlock := by
  rcases h.2 with ⟨hv, hn⟩ | ⟨g, cap1, cur, hv, hB, hg, -⟩
  · obtain rfl : hs = [] := List.eq_nil_of_length_eq_zero hn
    subst hv
    have HO : Hid (OwnLt W B (.slice none 0 0) []) := h
    clear h
    go_enter Try.func34, Try.ntmps34
    go_wp2
    refine wp_loop_rounds 1 ?_
    rw [rounds_succ]
    go_wp2
    go_ret
    exact ⟨by simp, by simpa [marksLt] using HO.out, rfl, rfl, rfl, rfl, Nat.le_refl _, fun _ _ _ => rfl⟩
  · subst hv
    have HO : Hid (OwnLt W B (.slice (some ⟨g, 0, none⟩) hs.length cap1) hs) := h
    clear h hg
    go_enter Try.func34, Try.ntmps34
    go_wp2
    go_loopw [1, 5] (fun x i wr => ∃ k : Nat, k ≤ hs.length ∧ i = .int .i64 k ∧ x = .int .i64 ((k0 : Int) + 5 * (k : Int)) ∧ Hid (OwnLt wr B (.slice (some ⟨g, 0, none⟩) hs.length cap1) (markedLt k0 hs k) ∧ wr.heap.size = W.heap.size ∧ W.grownBy wr (some g))) (fun _ i _ => hs.length - (intOf i).toNat)
    case atStart => exact ⟨0, Nat.zero_le _, rfl, by simp, by simpa [markedLt, marksLt] using HO.out, rfl, rfl, rfl, rfl, Nat.le_refl _, fun _ _ _ => rfl⟩
    case round =>
      obtain ⟨k, hk, rfl, rfl, HK⟩ := hrel
      by_cases hlt : k < hs.length
      · obtain ⟨hown, hsz, hgr⟩ := HK.out
        have hl2 := markedLt_len k0 hs k hk
        have HNX : Hid (markedLt k0 hs (k + 1) = (markedLt k0 hs k).set k (markLt (k0 + 5 * k))) := markedLt_next k0 hs k hlt
        have hO3 : OwnLt wr B (.slice (some ⟨g, 0, none⟩) (markedLt k0 hs k).length cap1) (markedLt k0 hs k) := by rw [hl2]; exact hown
        generalize markedLt k0 hs k = qs at *
        obtain ⟨d0, f0⟩ : ∃ c, wr.cell? ⟨g, k * 5, none⟩ = some c := ⟨_, by rw [World.ownsRow.cellAt hO3 _ (by omega)]; exact List.getElem?_eq_getElem (by rw [cellsLt_len]; omega)⟩
        obtain ⟨d1, f1⟩ : ∃ c, wr.cell? ⟨g, k * 5 + 1, none⟩ = some c := ⟨_, by rw [World.ownsRow.cellAt hO3 _ (by omega)]; exact List.getElem?_eq_getElem (by rw [cellsLt_len]; omega)⟩
        obtain ⟨d2, f2⟩ : ∃ c, wr.cell? ⟨g, k * 5 + 2, none⟩ = some c := ⟨_, by rw [World.ownsRow.cellAt hO3 _ (by omega)]; exact List.getElem?_eq_getElem (by rw [cellsLt_len]; omega)⟩
        obtain ⟨d3, f3⟩ : ∃ c, wr.cell? ⟨g, k * 5 + 3, none⟩ = some c := ⟨_, by rw [World.ownsRow.cellAt hO3 _ (by omega)]; exact List.getElem?_eq_getElem (by rw [cellsLt_len]; omega)⟩
        obtain ⟨d4, f4⟩ : ∃ c, wr.cell? ⟨g, k * 5 + 4, none⟩ = some c := ⟨_, by rw [World.ownsRow.cellAt hO3 _ (by omega)]; exact List.getElem?_eq_getElem (by rw [cellsLt_len]; omega)⟩
        have fz0 := World.ownsRow.frozenAt hO3 (k * 5)
        have fz1 := World.ownsRow.frozenAt hO3 (k * 5 + 1)
        have fz2 := World.ownsRow.frozenAt hO3 (k * 5 + 2)
        have fz3 := World.ownsRow.frozenAt hO3 (k * 5 + 3)
        have fz4 := World.ownsRow.frozenAt hO3 (k * 5 + 4)
        have er : ((k0 : Int) + 5 * (k : Int)) = ((k0 + 5 * k : Nat) : Int) := by omega
        have hN := hO3.set k (by omega) (markLt (k0 + 5 * k))
        rw [hl2] at hN
        rw [er]
        have hkb : k0 + 5 * k ≤ 1100000000 := by omega
        have HCC : Hid (k0 + 5 * k + 5 = k0 + 5 * (k + 1)) := by show _ = _; omega
        generalize k0 + 5 * k = c at *
        have HR4 : Hid (((((c : Int) + 1 + 1 + 1 + 1) % 3 == 0) : Bool) = decide ((c + 1 + 1 + 1 + 1) % 3 = 0)) := by show _ = _; rw [Bool.eq_iff_iff]; simp; omega
        have htm4 : ((c : Int) + 1 + 1 + 1 + 1).tmod 3 = ((c : Int) + 1 + 1 + 1 + 1) % 3 := Int.tmod_eq_emod_of_nonneg (by omega)
        have HN : Hid (OwnLt ((((((wr).setCell ⟨g, k * 5, none⟩ (.int .i64 ((c : Int)))).setCell ⟨g, k * 5 + 1, none⟩ (.int .i64 ((c : Int) + 1))).setCell ⟨g, k * 5 + 2, none⟩ (.int .i64 ((c : Int) + 1 + 1))).setCell ⟨g, k * 5 + 3, none⟩ (.int .i64 ((c : Int) + 1 + 1 + 1))).setCell ⟨g, k * 5 + 4, none⟩ (.bool (((c : Int) + 1 + 1 + 1 + 1) % 3 == 0))) B (.slice (some ⟨g, 0, none⟩) hs.length cap1) (qs.set k (markLt c))) := by
          show OwnLt _ _ _ _
          rw [HR4.out]
          exact hN
        have HZ1 : Hid (((((((wr).setCell ⟨g, k * 5, none⟩ (.int .i64 ((c : Int)))).setCell ⟨g, k * 5 + 1, none⟩ (.int .i64 ((c : Int) + 1))).setCell ⟨g, k * 5 + 2, none⟩ (.int .i64 ((c : Int) + 1 + 1))).setCell ⟨g, k * 5 + 3, none⟩ (.int .i64 ((c : Int) + 1 + 1 + 1))).setCell ⟨g, k * 5 + 4, none⟩ (.bool (((c : Int) + 1 + 1 + 1 + 1) % 3 == 0))).heap.size = W.heap.size) := by show _ = _; rw [← hsz]; simp [World.setCell]
        have HG1 : Hid (W.grownBy ((((((wr).setCell ⟨g, k * 5, none⟩ (.int .i64 ((c : Int)))).setCell ⟨g, k * 5 + 1, none⟩ (.int .i64 ((c : Int) + 1))).setCell ⟨g, k * 5 + 2, none⟩ (.int .i64 ((c : Int) + 1 + 1))).setCell ⟨g, k * 5 + 3, none⟩ (.int .i64 ((c : Int) + 1 + 1 + 1))).setCell ⟨g, k * 5 + 4, none⟩ (.bool (((c : Int) + 1 + 1 + 1 + 1) % 3 == 0))) (some g)) :=
          ⟨hgr.os, hgr.tape, hgr.output, by rw [HZ1.out]; exact Nat.le_refl _, fun j hj hne => ((((((Below.heap_setCell _ _ _ _ (fun e => hne (by rw [e])))).trans (Below.heap_setCell _ _ _ _ (fun e => hne (by rw [e])))).trans (Below.heap_setCell _ _ _ _ (fun e => hne (by rw [e])))).trans (Below.heap_setCell _ _ _ _ (fun e => hne (by rw [e])))).trans (Below.heap_setCell _ _ _ _ (fun e => hne (by rw [e])))).trans (hgr.block j hj hne)⟩
        have hlt' : (k : Int) < (hs.length : Int) := by omega
        clear hown hO3 hgr hsz hl2 hN HK er
        go_wp2
        go_roundw
        case rel => exact ⟨k + 1, by omega, by go_num, by have := HCC.out; congr 1; omega, by rw [HNX.out]; exact HN.out, HZ1.out, HG1.out⟩
        case measure => simp [intOf]; omega
      · have e : k = hs.length := by omega
        have hlt' : ¬ (k : Int) < (hs.length : Int) := by omega
        have HF : Hid (OwnLt wr B (.slice (some ⟨g, 0, none⟩) hs.length cap1) (marksLt k0 hs.length) ∧ wr.heap.size = W.heap.size ∧ W.grownBy wr (some g)) := by
          have := HK.out
          rw [e, markedLt_all] at this
          exact this
        clear HK
        go_wp2
        go_ret
        exact ⟨by congr 2, HF.out⟩

set_option maxRecDepth 100000 in
set_option maxHeartbeats 2000000 in
theorem heldLts_yes (W : World) (v : Value) (k0 n : Nat) (h : ReadsLt W v (marksLt k0 n)) (hl : n ≤ 4194304) (hk1 : k0 ≤ 1000000000) :
    Calls Try.prog 36 #[v, .int .i64 (k0 : Int)] W fun e W' => e = .returned (.int .i64 ((k0 + 5 * n : Nat) : Int)) ∧ W' = W := by
  obtain ⟨a1, cap1, hv, hc1⟩ := h
  rw [marksLt_len] at hv
  subst hv
  by_cases hn : n = 0
  · subst hn
    clear hc1
    go_enter Try.func36, Try.ntmps36
    go_wp2
    refine wp_loop_rounds 1 ?_
    rw [rounds_succ]
    go_wp2
    go_ret
    exact ⟨by simp, rfl⟩
  · obtain ⟨g1, o1, rfl, -, hc1⟩ := hc1.resolve_left (fun e => hn (by rw [← marksLt_len k0 n, e]; rfl))
    have HC1 : Hid (∀ j, j < n → LtAt W g1 (o1 + j * 5) (markLt (k0 + 5 * j))) := fun j hj => by
      have := hc1 j (by rw [marksLt_len]; exact hj)
      rw [marksLt_get] at this
      exact this
    clear hc1 hn
    go_enter Try.func36, Try.ntmps36
    go_wp2
    go_loop [1, 5] (fun x i => ∃ k : Nat, k ≤ n ∧ i = .int .i64 k ∧ x = .int .i64 ((k0 : Int) + 5 * (k : Int))) (fun _ i => n - (intOf i).toNat)
    case atStart => exact ⟨0, Nat.zero_le _, rfl, by simp⟩
    case round =>
      obtain ⟨k, hk, rfl, rfl⟩ := hrel
      by_cases hlt : k < n
      · obtain ⟨q0, q1, q2, q3, q4⟩ := HC1.out k hlt
        have er : ((k0 : Int) + 5 * (k : Int)) = ((k0 + 5 * k : Nat) : Int) := by omega
        rw [er]
        have hkb : k0 + 5 * k ≤ 1100000000 := by omega
        have HCC : Hid (k0 + 5 * k + 5 = k0 + 5 * (k + 1)) := by show _ = _; omega
        generalize k0 + 5 * k = c at *
        have HR4 : Hid (((((c : Int) + 1 + 1 + 1 + 1) % 3 == 0) : Bool) = decide ((c + 1 + 1 + 1 + 1) % 3 = 0)) := by show _ = _; rw [Bool.eq_iff_iff]; simp; omega
        have htm4 : ((c : Int) + 1 + 1 + 1 + 1).tmod 3 = ((c : Int) + 1 + 1 + 1 + 1) % 3 := Int.tmod_eq_emod_of_nonneg (by omega)
        have q0' : W.cell? ⟨g1, o1 + k * 5, none⟩ = some (.int .i64 ((c : Int))) := q0
        have q1' : W.cell? ⟨g1, o1 + k * 5 + 1, none⟩ = some (.int .i64 ((c : Int) + 1)) := q1
        have q2' : W.cell? ⟨g1, o1 + k * 5 + 2, none⟩ = some (.int .i64 ((c : Int) + 1 + 1)) := q2
        have q3' : W.cell? ⟨g1, o1 + k * 5 + 3, none⟩ = some (.int .i64 ((c : Int) + 1 + 1 + 1)) := q3
        have q4' : W.cell? ⟨g1, o1 + k * 5 + 4, none⟩ = some (.bool (((c : Int) + 1 + 1 + 1 + 1) % 3 == 0)) := by rw [HR4.out]; exact q4
        have hlt' : (k : Int) < (n : Int) := by omega
        clear q0 q1 q2 q3 q4 er
        go_wp2
        go_round
        case rel => exact ⟨k + 1, by omega, by go_num, by have := HCC.out; congr 1; omega⟩
        case measure => simp [intOf]; omega
      · have e : k = n := by omega
        have hlt' : ¬ (k : Int) < (n : Int) := by omega
        go_wp2
        go_ret
        exact ⟨by congr 2, rfl⟩
end Go.Proofs.Ytkkamigaolejiax
