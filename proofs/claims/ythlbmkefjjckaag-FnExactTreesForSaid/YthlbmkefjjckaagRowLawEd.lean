/-
  What the laws' functions over lists of edges answer: 'sz', 'to', 'eq', 'mark', 'held'.
-/
import Derived.Test.YthlbmkefjjckaagRowEd
namespace Go.Proofs.Ythlbmkefjjckaag
open Go.RowKit
set_option linter.unusedVariables false

theorem szEds_any (W : World) (v : Value) (hs : List EdD) (left : Int) (h : ReadsEd W v hs) (hl : hs.length ≤ maxLen) (h0 : 0 ≤ left) (h1 : left ≤ 1048576) :
    Calls Try.prog 21 #[v, .int .i64 left] W fun e W' => e = .returned (.int .i64 (if (hs.length : Int) ≤ left then left - hs.length else -1)) ∧ W' = W := by
  obtain ⟨a1, c1, rfl⟩ := h.shape
  unfold maxLen at hl
  clear h
  by_cases hle : (hs.length : Int) ≤ left
  · rw [if_pos hle]
    have e : ¬ (left - (hs.length : Int) < 0) := by omega
    go_enter Try.func21, Try.ntmps21
    go_wp2
    go_ret
    exact ⟨rfl, rfl⟩
  · rw [if_neg hle]
    have e : left - (hs.length : Int) < 0 := by omega
    go_enter Try.func21, Try.ntmps21
    go_wp2
    go_ret
    exact ⟨rfl, rfl⟩

theorem toEd_any (W : World) (x : EdD) : Calls Try.prog 48 #[.agg #[.int .i64 x.A, .int .i64 x.B, .int .i64 x.Cost]] W fun e W' => e = .returned (.agg #[.int .i64 x.A, .int .i64 x.B, .int .i64 x.Cost]) ∧ Below W.heap.size W W' := by
  go_enter Try.func48, Try.ntmps48
  go_wp2
  refine bodyPost_ret (v := .agg #[.int .i64 x.A, .int .i64 x.B, .int .i64 x.Cost]) (by simp [results, Try.results48, go_sem]) rfl ⟨rfl, ?_⟩
  exact (((Below.refl _ W).alloc (Nat.le_refl _) _).alloc (by simp) _).alloc (by simp; omega) _

def noEd : EdD := ⟨0, 0, 0⟩
theorem madeEd : ∀ n : Nat, (madeCells #[.int .i64 0, .int .i64 0, .int .i64 0] (n * 3)).toList = cellsEd (List.replicate n noEd)
  | 0 => by simp [madeCells, cellsEd]
  | n + 1 => by
    have e : (n + 1) * 3 = n * 3 + 1 + 1 + 1 := by omega
    have ih := madeEd n
    have m0 : (n * 3) % 3 = 0 := by omega
    have m1 : (n * 3 + 1) % 3 = 1 := by omega
    have m2 : (n * 3 + 1 + 1) % 3 = 2 := by omega
    rw [List.replicate_succ', cellsEd_app, ← ih, e]
    unfold madeCells
    simp [Array.range_succ, cellsEd, m0, m1, m2, noEd]

theorem makeEds (n : Nat) (hn : n ≤ 4194304) (w : World) : ∃ W1 : World,
    (Instr.makeSlice 39 (.int .i64 (n : Int)) (.int .i64 (n : Int))).run Try.prog w = .ok (.slice (some ⟨w.heap.size, 0, none⟩) n n) W1 ∧
    OwnEd W1 w.heap.size (.slice (some ⟨w.heap.size, 0, none⟩) n n) (List.replicate n noEd) ∧ Below w.heap.size w W1 ∧ w.heap.size < W1.heap.size := by
  obtain ⟨i0, hi, hz0, hz1, hz2⟩ := info_parts infoEd
  obtain ⟨w', hr, ho, hg⟩ := run_make_full (P := Try.prog) w w.heap.size 39 69 i0 _ 3 Try.underlying39 hi hz0 hz1 .i64 .i64 n (by rw [hz2]; omega) (by unfold maxLen; omega) (Nat.le_refl _)
  have hlt := (World.ownsRow.lt ho w.heap.size rfl).2
  refine ⟨w', hr, ?_, (Below.refl _ w).grown hg (Nat.le_refl _) (fun k hk => by cases hk), hlt⟩
  unfold OwnEd
  rw [List.length_replicate]
  rw [show (Value.agg #[.int .i64 0, .int .i64 0, .int .i64 0]).cells = #[.int .i64 0, .int .i64 0, .int .i64 0] from rfl, madeEd] at ho
  exact ho

/-- The list of which the first k are copied. -/
theorem to_nextEd (hs : List EdD) (k : Nat) (h : k < hs.length) : hs.take (k + 1) ++ List.replicate (hs.length - (k + 1)) noEd = (hs.take k ++ List.replicate (hs.length - k) noEd).set k hs[k] := by
  have e : hs.length - k = (hs.length - (k + 1)) + 1 := by omega
  rw [e, List.replicate_succ, List.set_append_right _ _ (by simp; omega), List.take_succ_eq_append_getElem h]
  have e2 : k - (hs.take k).length = 0 := by simp; omega
  rw [e2, List.set_cons_zero, List.append_assoc]
  rfl

set_option maxRecDepth 100000 in
set_option maxHeartbeats 2000000 in
theorem toEds_any (W : World) (v : Value) (hs : List EdD) (h : ReadsEd W v hs) (hl : hs.length ≤ 4194304) :
    Calls Try.prog 23 #[v] W fun e W' => ∃ v', e = .returned v' ∧ OwnEd W' W.heap.size v' hs ∧ Below W.heap.size W W' := by
  obtain ⟨a1, cap1, rfl, hc1⟩ := h
  obtain ⟨W1, hmake, ho, hb, hlt⟩ := makeEds hs.length hl W
  obtain ⟨H, hH⟩ : ∃ H, H = W.heap.size := ⟨_, rfl⟩
  rw [← hH] at hmake ho hb hlt ⊢
  have HB : Hid (Below H W W1) := hb
  have HO : Hid (OwnEd W1 H (.slice (some ⟨H, 0, none⟩) hs.length hs.length) (List.replicate hs.length noEd)) := ho
  have HHW : Hid (H = W.heap.size) := hH
  have HLT : Hid (H < W1.heap.size) := hlt
  clear ho hb hH hlt
  rcases hc1 with rfl | ⟨g1, o1, rfl, hg1, hc1⟩
  · simp only [List.length_nil] at HO ⊢
    have hm0 : (Instr.makeSlice 39 (.int .i64 0) (.int .i64 0)).run Try.prog W = .ok (.slice (some ⟨H, 0, none⟩) 0 0) W1 := hmake
    clear hmake
    go_enter Try.func23, Try.ntmps23
    go_wp2
    refine wp_loop_rounds 1 ?_
    rw [rounds_succ]
    go_wp2
    go_ret
    exact ⟨_, rfl, HO.out, HB.out⟩
  · have HC1 : Hid (∀ wr, Below H W wr → ∀ j (hj : j < hs.length), EdAt wr g1 (o1 + j * 3) hs[j]) := fun wr hS j hj => (hc1 j hj).below hg1 (by rw [← HHW.out]; exact hS)
    clear hc1
    go_enter Try.func23, Try.ntmps23
    go_wp2
    go_loopw [4] (fun i wr => ∃ k : Nat, k ≤ hs.length ∧ i = .int .i64 k ∧ Hid (OwnEd wr H (.slice (some ⟨H, 0, none⟩) hs.length hs.length) (hs.take k ++ List.replicate (hs.length - k) noEd) ∧ Below H W wr ∧ H < wr.heap.size)) (fun i _ => hs.length - (intOf i).toNat)
    case atStart => exact ⟨0, Nat.zero_le _, rfl, by simpa using HO.out, HB.out, HLT.out⟩
    case round =>
      obtain ⟨k, hk, rfl, HK⟩ := hrel
      by_cases hlt2 : k < hs.length
      · obtain ⟨hown, hbr, hHr⟩ := HK.out
        obtain ⟨q0, q1, q2⟩ := HC1.out wr hbr k hlt2
        have HNX : Hid (hs.take (k + 1) ++ List.replicate (hs.length - (k + 1)) noEd = (hs.take k ++ List.replicate (hs.length - k) noEd).set k hs[k]) := to_nextEd hs k hlt2
        have hlt' : (k : Int) < (hs.length : Int) := by omega
        have HLQ : Hid ((hs.take k ++ List.replicate (hs.length - k) noEd).length = hs.length) := by show _ = _; simp; omega
        generalize hs[k] = x at *
        have HOW : Hid (OwnEd wr H (.slice (some ⟨H, 0, none⟩) hs.length hs.length) (hs.take k ++ List.replicate (hs.length - k) noEd)) := hown
        have HBR : Hid (Below H W wr) := hbr
        have HHR : Hid (H < wr.heap.size) := hHr
        clear hown hbr hHr HK
        go_wp2_with fail
        refine (toEd_any _ x).mono ?_
        rintro e w2 ⟨rfl, hb2⟩
        have hO2 := HOW.out.below hb2
        generalize hs.take k ++ List.replicate (hs.length - k) noEd = qs at *
        have hql := HLQ.out
        have hO3 : OwnEd w2 H (.slice (some ⟨H, 0, none⟩) qs.length hs.length) qs := by rw [hql]; exact hO2
        have z0 : ∀ j, j < hs.length * 3 → ∃ c, w2.cell? ⟨H, j, none⟩ = some c := fun j hj => ⟨_, by rw [World.ownsRow.cellAt hO3 j (by omega)]; exact List.getElem?_eq_getElem (by rw [cellsEd_len]; omega)⟩
        obtain ⟨d0, f0⟩ := z0 (k * 3) (by omega)
        obtain ⟨d1, f1⟩ := z0 (k * 3 + 1) (by omega)
        obtain ⟨d2, f2⟩ := z0 (k * 3 + 2) (by omega)
        have fz0 := World.ownsRow.frozenAt hO3 (k * 3)
        have fz1 := World.ownsRow.frozenAt hO3 (k * 3 + 1)
        have fz2 := World.ownsRow.frozenAt hO3 (k * 3 + 2)
        have HON : Hid (OwnEd ((((w2).setCell ⟨H, k * 3, none⟩ (.int .i64 x.A)).setCell ⟨H, k * 3 + 1, none⟩ (.int .i64 x.B)).setCell ⟨H, k * 3 + 2, none⟩ (.int .i64 x.Cost)) H (.slice (some ⟨H, 0, none⟩) hs.length hs.length) (qs.set k x)) := by
          have := hO3.set k (by omega) x
          rw [hql] at this
          exact this
        have HBN : Hid (Below H W ((((w2).setCell ⟨H, k * 3, none⟩ (.int .i64 x.A)).setCell ⟨H, k * 3 + 1, none⟩ (.int .i64 x.B)).setCell ⟨H, k * 3 + 2, none⟩ (.int .i64 x.Cost))) :=
          (((HBR.out.trans (hb2.mono (Nat.le_of_lt HHR.out))).setCell (Nat.le_refl _) _).setCell (Nat.le_refl _) _).setCell (Nat.le_refl _) _
        have HHN : Hid (H < ((((w2).setCell ⟨H, k * 3, none⟩ (.int .i64 x.A)).setCell ⟨H, k * 3 + 1, none⟩ (.int .i64 x.B)).setCell ⟨H, k * 3 + 2, none⟩ (.int .i64 x.Cost)).heap.size) := by
          have := Nat.lt_of_lt_of_le HHR.out hb2.size
          show _ < _
          simpa [World.setCell] using this
        clear hb2 hO2 hO3 z0 HOW hql
        go_wp2
        go_roundw
        case rel => exact ⟨k + 1, by omega, by go_num, by rw [HNX.out]; exact HON.out, HBN.out, HHN.out⟩
        case measure => simp [intOf]; omega
      · have hlt' : ¬ (k : Int) < (hs.length : Int) := by omega
        have e : k = hs.length := by omega
        subst e
        have HFIN : Hid (OwnEd wr H (.slice (some ⟨H, 0, none⟩) hs.length hs.length) hs ∧ Below H W wr) := by
          obtain ⟨hown, hbr, -⟩ := HK.out
          exact ⟨by simpa using hown, hbr⟩
        clear HK
        go_wp2
        go_ret
        exact ⟨_, rfl, HFIN.out.1, HFIN.out.2⟩

theorem eqEd_same (W : World) (x : EdD) : Calls Try.prog 51 #[.agg #[.int .i64 x.A, .int .i64 x.B, .int .i64 x.Cost], .agg #[.int .i64 x.A, .int .i64 x.B, .int .i64 x.Cost]] W fun e W' => e = .returned (.bool true) ∧ Below W.heap.size W W' := by
  go_enter Try.func51, Try.ntmps51
  go_wp2
  go_ret
  exact ⟨rfl, ((Below.refl _ W).alloc (Nat.le_refl _) _).alloc (by simp) _⟩

set_option maxRecDepth 100000 in
set_option maxHeartbeats 2000000 in
theorem eqEds_same (W : World) (v1 v2 : Value) (hs : List EdD) (h1 : ReadsEd W v1 hs) (h2 : ReadsEd W v2 hs) (hl : hs.length ≤ 4194304) :
    Calls Try.prog 25 #[v1, v2] W fun e W' => e = .returned (.bool true) ∧ Below W.heap.size W W' := by
  obtain ⟨a1, cap1, rfl, hc1⟩ := h1
  obtain ⟨a2, cap2, rfl, hc2⟩ := h2
  by_cases hz : hs = []
  · subst hz
    simp only [List.length_nil]
    clear hc1 hc2
    go_enter Try.func25, Try.ntmps25
    go_wp2
    refine wp_loop_rounds 1 ?_
    rw [rounds_succ]
    go_wp2
    go_ret
    exact ⟨rfl, Below.refl _ _⟩
  · obtain ⟨g1, o1, rfl, hg1, hc1⟩ := hc1.resolve_left hz
    obtain ⟨g2, o2, rfl, hg2, hc2⟩ := hc2.resolve_left hz
    have HC1 : Hid (∀ W1, Since W.heap.size W W1 → ∀ j (hj : j < hs.length), EdAt W1 g1 (o1 + j * 3) hs[j]) := fun W1 hS j hj => (hc1 j hj).below hg1 hS.1
    have HC2 : Hid (∀ W1, Since W.heap.size W W1 → ∀ j (hj : j < hs.length), EdAt W1 g2 (o2 + j * 3) hs[j]) := fun W1 hS j hj => (hc2 j hj).below hg2 hS.1
    have HS0 : Hid (Since W.heap.size W W) := Since.start W
    clear hc1 hc2 hz
    go_enter Try.func25, Try.ntmps25
    go_wp2
    go_loopw [5] (fun i wr => ∃ k : Nat, k ≤ hs.length ∧ i = .int .i64 k ∧ Hid (Since W.heap.size W wr)) (fun i _ => hs.length - (intOf i).toNat)
    case atStart => exact ⟨0, Nat.zero_le _, rfl, HS0⟩
    case round =>
      obtain ⟨k, hk, rfl, HS⟩ := hrel
      by_cases hlt : k < hs.length
      · obtain ⟨q0, q1, q2⟩ := HC1.out wr HS.out k hlt
        obtain ⟨r0, r1, r2⟩ := HC2.out wr HS.out k hlt
        have hlt' : (k : Int) < (hs.length : Int) := by omega
        generalize hs[k] = x at *
        go_wp2
        go_region_with (go_at_call 51; refine (eqEd_same _ x).mono ?_; rintro e w1 ⟨rfl, hb⟩)
        all_goals
          have HS1 : Hid (Since W.heap.size W w1) := HS.out.drew.step hb
          clear hb
          go_wp2
          go_roundw
          case rel => exact ⟨k + 1, by omega, by go_num, HS1⟩
          case measure => simp [intOf]; omega
      · have hlt' : ¬ (k : Int) < (hs.length : Int) := by omega
        go_wp2
        go_ret
        exact ⟨rfl, HS.out.1⟩

/-- One with marks from k on; a list so. -/
def markEd (k : Nat) : EdD := ⟨((k : Nat) : Int), ((k + 1 : Nat) : Int), ((k + 2 : Nat) : Int)⟩
def marksEd (k n : Nat) : List EdD := (List.range n).map fun j => markEd (k + 3 * j)
theorem marksEd_len (k n : Nat) : (marksEd k n).length = n := by simp [marksEd]
theorem marksEd_get (k n j : Nat) (h : j < (marksEd k n).length) : (marksEd k n)[j] = markEd (k + 3 * j) := by simp [marksEd]
def markedEd (k : Nat) (hs : List EdD) (i : Nat) : List EdD := marksEd k i ++ hs.drop i
theorem markedEd_len (k : Nat) (hs : List EdD) (i : Nat) (h : i ≤ hs.length) : (markedEd k hs i).length = hs.length := by simp [markedEd, marksEd_len]; omega
theorem markedEd_next (k : Nat) (hs : List EdD) (i : Nat) (h : i < hs.length) : markedEd k hs (i + 1) = (markedEd k hs i).set i (markEd (k + 3 * i)) := by
  unfold markedEd
  have e : hs.drop i = hs[i] :: hs.drop (i + 1) := List.drop_eq_getElem_cons h
  rw [List.set_append_right _ _ (by rw [marksEd_len]; exact Nat.le_refl _), marksEd_len, Nat.sub_self, e, List.set_cons_zero]
  simp [marksEd, List.range_succ]
theorem markedEd_all (k : Nat) (hs : List EdD) : markedEd k hs hs.length = marksEd k hs.length := by simp [markedEd]

set_option maxRecDepth 100000 in
set_option maxHeartbeats 2000000 in
theorem markEds_any (W : World) (B : Nat) (v : Value) (k0 : Nat) (hs : List EdD) (h : OwnEd W B v hs) (hl : hs.length ≤ 4194304) (hk1 : k0 ≤ 1000000000) :
    Calls Try.prog 28 #[v, .int .i64 (k0 : Int)] W fun e W' => e = .returned (.int .i64 ((k0 + 3 * hs.length : Nat) : Int)) ∧ OwnEd W' B v (marksEd k0 hs.length) ∧ W'.heap.size = W.heap.size ∧ W.grownBy W' v.ownBlock := by
  rcases h.2 with ⟨hv, hn⟩ | ⟨g, cap1, cur, hv, hB, hg, -⟩
  · obtain rfl : hs = [] := List.eq_nil_of_length_eq_zero hn
    subst hv
    have HO : Hid (OwnEd W B (.slice none 0 0) []) := h
    clear h
    go_enter Try.func28, Try.ntmps28
    go_wp2
    refine wp_loop_rounds 1 ?_
    rw [rounds_succ]
    go_wp2
    go_ret
    exact ⟨by simp, by simpa [marksEd] using HO.out, rfl, rfl, rfl, rfl, Nat.le_refl _, fun _ _ _ => rfl⟩
  · subst hv
    have HO : Hid (OwnEd W B (.slice (some ⟨g, 0, none⟩) hs.length cap1) hs) := h
    clear h hg
    go_enter Try.func28, Try.ntmps28
    go_wp2
    go_loopw [1, 5] (fun x i wr => ∃ k : Nat, k ≤ hs.length ∧ i = .int .i64 k ∧ x = .int .i64 ((k0 : Int) + 3 * (k : Int)) ∧ Hid (OwnEd wr B (.slice (some ⟨g, 0, none⟩) hs.length cap1) (markedEd k0 hs k) ∧ wr.heap.size = W.heap.size ∧ W.grownBy wr (some g))) (fun _ i _ => hs.length - (intOf i).toNat)
    case atStart => exact ⟨0, Nat.zero_le _, rfl, by simp, by simpa [markedEd, marksEd] using HO.out, rfl, rfl, rfl, rfl, Nat.le_refl _, fun _ _ _ => rfl⟩
    case round =>
      obtain ⟨k, hk, rfl, rfl, HK⟩ := hrel
      by_cases hlt : k < hs.length
      · obtain ⟨hown, hsz, hgr⟩ := HK.out
        have hl2 := markedEd_len k0 hs k hk
        have HNX : Hid (markedEd k0 hs (k + 1) = (markedEd k0 hs k).set k (markEd (k0 + 3 * k))) := markedEd_next k0 hs k hlt
        have hO3 : OwnEd wr B (.slice (some ⟨g, 0, none⟩) (markedEd k0 hs k).length cap1) (markedEd k0 hs k) := by rw [hl2]; exact hown
        generalize markedEd k0 hs k = qs at *
        obtain ⟨d0, f0⟩ : ∃ c, wr.cell? ⟨g, k * 3, none⟩ = some c := ⟨_, by rw [World.ownsRow.cellAt hO3 _ (by omega)]; exact List.getElem?_eq_getElem (by rw [cellsEd_len]; omega)⟩
        obtain ⟨d1, f1⟩ : ∃ c, wr.cell? ⟨g, k * 3 + 1, none⟩ = some c := ⟨_, by rw [World.ownsRow.cellAt hO3 _ (by omega)]; exact List.getElem?_eq_getElem (by rw [cellsEd_len]; omega)⟩
        obtain ⟨d2, f2⟩ : ∃ c, wr.cell? ⟨g, k * 3 + 2, none⟩ = some c := ⟨_, by rw [World.ownsRow.cellAt hO3 _ (by omega)]; exact List.getElem?_eq_getElem (by rw [cellsEd_len]; omega)⟩
        have fz0 := World.ownsRow.frozenAt hO3 (k * 3)
        have fz1 := World.ownsRow.frozenAt hO3 (k * 3 + 1)
        have fz2 := World.ownsRow.frozenAt hO3 (k * 3 + 2)
        have er : ((k0 : Int) + 3 * (k : Int)) = ((k0 + 3 * k : Nat) : Int) := by omega
        have hN := hO3.set k (by omega) (markEd (k0 + 3 * k))
        rw [hl2] at hN
        rw [er]
        have hkb : k0 + 3 * k ≤ 1100000000 := by omega
        have HCC : Hid (k0 + 3 * k + 3 = k0 + 3 * (k + 1)) := by show _ = _; omega
        generalize k0 + 3 * k = c at *
        have HN : Hid (OwnEd ((((wr).setCell ⟨g, k * 3, none⟩ (.int .i64 ((c : Int)))).setCell ⟨g, k * 3 + 1, none⟩ (.int .i64 ((c : Int) + 1))).setCell ⟨g, k * 3 + 2, none⟩ (.int .i64 ((c : Int) + 1 + 1))) B (.slice (some ⟨g, 0, none⟩) hs.length cap1) (qs.set k (markEd c))) := by
          show OwnEd _ _ _ _
          exact hN
        have HZ1 : Hid (((((wr).setCell ⟨g, k * 3, none⟩ (.int .i64 ((c : Int)))).setCell ⟨g, k * 3 + 1, none⟩ (.int .i64 ((c : Int) + 1))).setCell ⟨g, k * 3 + 2, none⟩ (.int .i64 ((c : Int) + 1 + 1))).heap.size = W.heap.size) := by show _ = _; rw [← hsz]; simp [World.setCell]
        have HG1 : Hid (W.grownBy ((((wr).setCell ⟨g, k * 3, none⟩ (.int .i64 ((c : Int)))).setCell ⟨g, k * 3 + 1, none⟩ (.int .i64 ((c : Int) + 1))).setCell ⟨g, k * 3 + 2, none⟩ (.int .i64 ((c : Int) + 1 + 1))) (some g)) :=
          ⟨hgr.os, hgr.tape, hgr.output, by rw [HZ1.out]; exact Nat.le_refl _, fun j hj hne => ((((Below.heap_setCell _ _ _ _ (fun e => hne (by rw [e])))).trans (Below.heap_setCell _ _ _ _ (fun e => hne (by rw [e])))).trans (Below.heap_setCell _ _ _ _ (fun e => hne (by rw [e])))).trans (hgr.block j hj hne)⟩
        have hlt' : (k : Int) < (hs.length : Int) := by omega
        clear hown hO3 hgr hsz hl2 hN HK er
        go_wp2
        go_roundw
        case rel => exact ⟨k + 1, by omega, by go_num, by have := HCC.out; congr 1; omega, by rw [HNX.out]; exact HN.out, HZ1.out, HG1.out⟩
        case measure => simp [intOf]; omega
      · have e : k = hs.length := by omega
        have hlt' : ¬ (k : Int) < (hs.length : Int) := by omega
        have HF : Hid (OwnEd wr B (.slice (some ⟨g, 0, none⟩) hs.length cap1) (marksEd k0 hs.length) ∧ wr.heap.size = W.heap.size ∧ W.grownBy wr (some g)) := by
          have := HK.out
          rw [e, markedEd_all] at this
          exact this
        clear HK
        go_wp2
        go_ret
        exact ⟨by congr 2, HF.out⟩

set_option maxRecDepth 100000 in
set_option maxHeartbeats 2000000 in
theorem heldEds_yes (W : World) (v : Value) (k0 n : Nat) (h : ReadsEd W v (marksEd k0 n)) (hl : n ≤ 4194304) (hk1 : k0 ≤ 1000000000) :
    Calls Try.prog 29 #[v, .int .i64 (k0 : Int)] W fun e W' => e = .returned (.int .i64 ((k0 + 3 * n : Nat) : Int)) ∧ W' = W := by
  obtain ⟨a1, cap1, hv, hc1⟩ := h
  rw [marksEd_len] at hv
  subst hv
  by_cases hn : n = 0
  · subst hn
    clear hc1
    go_enter Try.func29, Try.ntmps29
    go_wp2
    refine wp_loop_rounds 1 ?_
    rw [rounds_succ]
    go_wp2
    go_ret
    exact ⟨by simp, rfl⟩
  · obtain ⟨g1, o1, rfl, -, hc1⟩ := hc1.resolve_left (fun e => hn (by rw [← marksEd_len k0 n, e]; rfl))
    have HC1 : Hid (∀ j, j < n → EdAt W g1 (o1 + j * 3) (markEd (k0 + 3 * j))) := fun j hj => by
      have := hc1 j (by rw [marksEd_len]; exact hj)
      rw [marksEd_get] at this
      exact this
    clear hc1 hn
    go_enter Try.func29, Try.ntmps29
    go_wp2
    go_loop [1, 5] (fun x i => ∃ k : Nat, k ≤ n ∧ i = .int .i64 k ∧ x = .int .i64 ((k0 : Int) + 3 * (k : Int))) (fun _ i => n - (intOf i).toNat)
    case atStart => exact ⟨0, Nat.zero_le _, rfl, by simp⟩
    case round =>
      obtain ⟨k, hk, rfl, rfl⟩ := hrel
      by_cases hlt : k < n
      · obtain ⟨q0, q1, q2⟩ := HC1.out k hlt
        have er : ((k0 : Int) + 3 * (k : Int)) = ((k0 + 3 * k : Nat) : Int) := by omega
        rw [er]
        have hkb : k0 + 3 * k ≤ 1100000000 := by omega
        have HCC : Hid (k0 + 3 * k + 3 = k0 + 3 * (k + 1)) := by show _ = _; omega
        generalize k0 + 3 * k = c at *
        have q0' : W.cell? ⟨g1, o1 + k * 3, none⟩ = some (.int .i64 ((c : Int))) := q0
        have q1' : W.cell? ⟨g1, o1 + k * 3 + 1, none⟩ = some (.int .i64 ((c : Int) + 1)) := q1
        have q2' : W.cell? ⟨g1, o1 + k * 3 + 2, none⟩ = some (.int .i64 ((c : Int) + 1 + 1)) := q2
        have hlt' : (k : Int) < (n : Int) := by omega
        clear q0 q1 q2 er
        go_wp2
        go_round
        case rel => exact ⟨k + 1, by omega, by go_num, by have := HCC.out; congr 1; omega⟩
        case measure => simp [intOf]; omega
      · have e : k = n := by omega
        have hlt' : ¬ (k : Int) < (n : Int) := by omega
        go_wp2
        go_ret
        exact ⟨by congr 2, rfl⟩
end Go.Proofs.Ythlbmkefjjckaag
