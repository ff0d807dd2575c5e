/-
  What the laws' functions over lists of hops answer: 'sz', 'to', 'eq', 'mark', 'held'.
-/
import Derived.Test.YthlbmkefjjckaagRowHop
namespace Go.Proofs.Ythlbmkefjjckaag
open Go.RowKit
set_option linter.unusedVariables false

def noHop : HopD := ⟨0, 0⟩
theorem madeHop : ∀ n : Nat, (madeCells #[.int .i64 0, .int .i64 0] (n * 2)).toList = cellsHop (List.replicate n noHop)
  | 0 => by simp [madeCells, cellsHop]
  | n + 1 => by
    have e : (n + 1) * 2 = n * 2 + 1 + 1 := by omega
    have ih := madeHop n
    have m0 : (n * 2) % 2 = 0 := by omega
    have m1 : (n * 2 + 1) % 2 = 1 := by omega
    rw [List.replicate_succ', cellsHop_app, ← ih, e]
    unfold madeCells
    simp [Array.range_succ, cellsHop, m0, m1, noHop]

theorem makeHops (n : Nat) (hn : n ≤ 4194304) (w : World) : ∃ W1 : World,
    (Instr.makeSlice 26 (.int .i64 (n : Int)) (.int .i64 (n : Int))).run Try.prog w = .ok (.slice (some ⟨w.heap.size, 0, none⟩) n n) W1 ∧
    OwnHop W1 w.heap.size (.slice (some ⟨w.heap.size, 0, none⟩) n n) (List.replicate n noHop) ∧ Below w.heap.size w W1 ∧ w.heap.size < W1.heap.size := by
  obtain ⟨i0, hi, hz0, hz1, hz2⟩ := info_parts infoHop
  obtain ⟨w', hr, ho, hg⟩ := run_make_full (P := Try.prog) w w.heap.size 26 63 i0 _ 2 Try.underlying26 hi hz0 hz1 .i64 .i64 n (by rw [hz2]; omega) (by unfold maxLen; omega) (Nat.le_refl _)
  have hlt := (World.ownsRow.lt ho w.heap.size rfl).2
  refine ⟨w', hr, ?_, (Below.refl _ w).grown hg (Nat.le_refl _) (fun k hk => by cases hk), hlt⟩
  unfold OwnHop
  rw [List.length_replicate]
  rw [show (Value.agg #[.int .i64 0, .int .i64 0]).cells = #[.int .i64 0, .int .i64 0] from rfl, madeHop] at ho
  exact ho

/-- The list of which the first k are copied. -/
theorem to_nextHop (hs : List HopD) (k : Nat) (h : k < hs.length) : hs.take (k + 1) ++ List.replicate (hs.length - (k + 1)) noHop = (hs.take k ++ List.replicate (hs.length - k) noHop).set k hs[k] := by
  have e : hs.length - k = (hs.length - (k + 1)) + 1 := by omega
  rw [e, List.replicate_succ, List.set_append_right _ _ (by simp; omega), List.take_succ_eq_append_getElem h]
  have e2 : k - (hs.take k).length = 0 := by simp; omega
  rw [e2, List.set_cons_zero, List.append_assoc]
  rfl

theorem eqHop_same (W : World) (x : HopD) : Calls Try.prog 43 #[.agg #[.int .i64 x.From, .int .i64 x.To], .agg #[.int .i64 x.From, .int .i64 x.To]] W fun e W' => e = .returned (.bool true) ∧ Below W.heap.size W W' := by
  go_enter Try.func43, Try.ntmps43
  go_wp2
  go_ret
  exact ⟨rfl, ((Below.refl _ W).alloc (Nat.le_refl _) _).alloc (by simp) _⟩

set_option maxRecDepth 100000 in
set_option maxHeartbeats 2000000 in
theorem eqHops_same (W : World) (v1 v2 : Value) (hs : List HopD) (h1 : ReadsHop W v1 hs) (h2 : ReadsHop W v2 hs) (hl : hs.length ≤ 4194304) :
    Calls Try.prog 15 #[v1, v2] W fun e W' => e = .returned (.bool true) ∧ Below W.heap.size W W' := by
  obtain ⟨a1, cap1, rfl, hc1⟩ := h1
  obtain ⟨a2, cap2, rfl, hc2⟩ := h2
  by_cases hz : hs = []
  · subst hz
    simp only [List.length_nil]
    clear hc1 hc2
    go_enter Try.func15, Try.ntmps15
    go_wp2
    refine wp_loop_rounds 1 ?_
    rw [rounds_succ]
    go_wp2
    go_ret
    exact ⟨rfl, Below.refl _ _⟩
  · obtain ⟨g1, o1, rfl, hg1, hc1⟩ := hc1.resolve_left hz
    obtain ⟨g2, o2, rfl, hg2, hc2⟩ := hc2.resolve_left hz
    have HC1 : Hid (∀ W1, Since W.heap.size W W1 → ∀ j (hj : j < hs.length), HopAt W1 g1 (o1 + j * 2) hs[j]) := fun W1 hS j hj => (hc1 j hj).below hg1 hS.1
    have HC2 : Hid (∀ W1, Since W.heap.size W W1 → ∀ j (hj : j < hs.length), HopAt W1 g2 (o2 + j * 2) hs[j]) := fun W1 hS j hj => (hc2 j hj).below hg2 hS.1
    have HS0 : Hid (Since W.heap.size W W) := Since.start W
    clear hc1 hc2 hz
    go_enter Try.func15, Try.ntmps15
    go_wp2
    go_loopw [5] (fun i wr => ∃ k : Nat, k ≤ hs.length ∧ i = .int .i64 k ∧ Hid (Since W.heap.size W wr)) (fun i _ => hs.length - (intOf i).toNat)
    case atStart => exact ⟨0, Nat.zero_le _, rfl, HS0⟩
    case round =>
      obtain ⟨k, hk, rfl, HS⟩ := hrel
      by_cases hlt : k < hs.length
      · obtain ⟨q0, q1⟩ := HC1.out wr HS.out k hlt
        obtain ⟨r0, r1⟩ := HC2.out wr HS.out k hlt
        have hlt' : (k : Int) < (hs.length : Int) := by omega
        generalize hs[k] = x at *
        go_wp2
        go_region_with (go_at_call 43; refine (eqHop_same _ x).mono ?_; rintro e w1 ⟨rfl, hb⟩)
        all_goals
          have HS1 : Hid (Since W.heap.size W w1) := HS.out.drew.step hb
          clear hb
          go_wp2
          go_roundw
          case rel => exact ⟨k + 1, by omega, by go_num, HS1⟩
          case measure => simp [intOf]; omega
      · have hlt' : ¬ (k : Int) < (hs.length : Int) := by omega
        go_wp2
        go_ret
        exact ⟨rfl, HS.out.1⟩

/-- One with marks from k on; a list so. -/
def markHop (k : Nat) : HopD := ⟨((k : Nat) : Int), ((k + 1 : Nat) : Int)⟩
def marksHop (k n : Nat) : List HopD := (List.range n).map fun j => markHop (k + 2 * j)
theorem marksHop_len (k n : Nat) : (marksHop k n).length = n := by simp [marksHop]
theorem marksHop_get (k n j : Nat) (h : j < (marksHop k n).length) : (marksHop k n)[j] = markHop (k + 2 * j) := by simp [marksHop]
def markedHop (k : Nat) (hs : List HopD) (i : Nat) : List HopD := marksHop k i ++ hs.drop i
theorem markedHop_len (k : Nat) (hs : List HopD) (i : Nat) (h : i ≤ hs.length) : (markedHop k hs i).length = hs.length := by simp [markedHop, marksHop_len]; omega
theorem markedHop_next (k : Nat) (hs : List HopD) (i : Nat) (h : i < hs.length) : markedHop k hs (i + 1) = (markedHop k hs i).set i (markHop (k + 2 * i)) := by
  unfold markedHop
  have e : hs.drop i = hs[i] :: hs.drop (i + 1) := List.drop_eq_getElem_cons h
  rw [List.set_append_right _ _ (by rw [marksHop_len]; exact Nat.le_refl _), marksHop_len, Nat.sub_self, e, List.set_cons_zero]
  simp [marksHop, List.range_succ]
theorem markedHop_all (k : Nat) (hs : List HopD) : markedHop k hs hs.length = marksHop k hs.length := by simp [markedHop]

set_option maxRecDepth 100000 in
set_option maxHeartbeats 2000000 in
theorem markHops_any (W : World) (B : Nat) (v : Value) (k0 : Nat) (hs : List HopD) (h : OwnHop W B v hs) (hl : hs.length ≤ 4194304) (hk1 : k0 ≤ 1000000000) :
    Calls Try.prog 17 #[v, .int .i64 (k0 : Int)] W fun e W' => e = .returned (.int .i64 ((k0 + 2 * hs.length : Nat) : Int)) ∧ OwnHop W' B v (marksHop k0 hs.length) ∧ W'.heap.size = W.heap.size ∧ W.grownBy W' v.ownBlock := by
  rcases h.2 with ⟨hv, hn⟩ | ⟨g, cap1, cur, hv, hB, hg, -⟩
  · obtain rfl : hs = [] := List.eq_nil_of_length_eq_zero hn
    subst hv
    have HO : Hid (OwnHop W B (.slice none 0 0) []) := h
    clear h
    go_enter Try.func17, Try.ntmps17
    go_wp2
    refine wp_loop_rounds 1 ?_
    rw [rounds_succ]
    go_wp2
    go_ret
    exact ⟨by simp, by simpa [marksHop] using HO.out, rfl, rfl, rfl, rfl, Nat.le_refl _, fun _ _ _ => rfl⟩
  · subst hv
    have HO : Hid (OwnHop W B (.slice (some ⟨g, 0, none⟩) hs.length cap1) hs) := h
    clear h hg
    go_enter Try.func17, Try.ntmps17
    go_wp2
    go_loopw [1, 5] (fun x i wr => ∃ k : Nat, k ≤ hs.length ∧ i = .int .i64 k ∧ x = .int .i64 ((k0 : Int) + 2 * (k : Int)) ∧ Hid (OwnHop wr B (.slice (some ⟨g, 0, none⟩) hs.length cap1) (markedHop k0 hs k) ∧ wr.heap.size = W.heap.size ∧ W.grownBy wr (some g))) (fun _ i _ => hs.length - (intOf i).toNat)
    case atStart => exact ⟨0, Nat.zero_le _, rfl, by simp, by simpa [markedHop, marksHop] using HO.out, rfl, rfl, rfl, rfl, Nat.le_refl _, fun _ _ _ => rfl⟩
    case round =>
      obtain ⟨k, hk, rfl, rfl, HK⟩ := hrel
      by_cases hlt : k < hs.length
      · obtain ⟨hown, hsz, hgr⟩ := HK.out
        have hl2 := markedHop_len k0 hs k hk
        have HNX : Hid (markedHop k0 hs (k + 1) = (markedHop k0 hs k).set k (markHop (k0 + 2 * k))) := markedHop_next k0 hs k hlt
        have hO3 : OwnHop wr B (.slice (some ⟨g, 0, none⟩) (markedHop k0 hs k).length cap1) (markedHop k0 hs k) := by rw [hl2]; exact hown
        generalize markedHop k0 hs k = qs at *
        obtain ⟨d0, f0⟩ : ∃ c, wr.cell? ⟨g, k * 2, none⟩ = some c := ⟨_, by rw [World.ownsRow.cellAt hO3 _ (by omega)]; exact List.getElem?_eq_getElem (by rw [cellsHop_len]; omega)⟩
        obtain ⟨d1, f1⟩ : ∃ c, wr.cell? ⟨g, k * 2 + 1, none⟩ = some c := ⟨_, by rw [World.ownsRow.cellAt hO3 _ (by omega)]; exact List.getElem?_eq_getElem (by rw [cellsHop_len]; omega)⟩
        have fz0 := World.ownsRow.frozenAt hO3 (k * 2)
        have fz1 := World.ownsRow.frozenAt hO3 (k * 2 + 1)
        have er : ((k0 : Int) + 2 * (k : Int)) = ((k0 + 2 * k : Nat) : Int) := by omega
        have hN := hO3.set k (by omega) (markHop (k0 + 2 * k))
        rw [hl2] at hN
        rw [er]
        have hkb : k0 + 2 * k ≤ 1100000000 := by omega
        have HCC : Hid (k0 + 2 * k + 2 = k0 + 2 * (k + 1)) := by show _ = _; omega
        generalize k0 + 2 * k = c at *
        have HN : Hid (OwnHop (((wr).setCell ⟨g, k * 2, none⟩ (.int .i64 ((c : Int)))).setCell ⟨g, k * 2 + 1, none⟩ (.int .i64 ((c : Int) + 1))) B (.slice (some ⟨g, 0, none⟩) hs.length cap1) (qs.set k (markHop c))) := by
          show OwnHop _ _ _ _
          exact hN
        have HZ1 : Hid ((((wr).setCell ⟨g, k * 2, none⟩ (.int .i64 ((c : Int)))).setCell ⟨g, k * 2 + 1, none⟩ (.int .i64 ((c : Int) + 1))).heap.size = W.heap.size) := by show _ = _; rw [← hsz]; simp [World.setCell]
        have HG1 : Hid (W.grownBy (((wr).setCell ⟨g, k * 2, none⟩ (.int .i64 ((c : Int)))).setCell ⟨g, k * 2 + 1, none⟩ (.int .i64 ((c : Int) + 1))) (some g)) :=
          ⟨hgr.os, hgr.tape, hgr.output, by rw [HZ1.out]; exact Nat.le_refl _, fun j hj hne => (((Below.heap_setCell _ _ _ _ (fun e => hne (by rw [e])))).trans (Below.heap_setCell _ _ _ _ (fun e => hne (by rw [e])))).trans (hgr.block j hj hne)⟩
        have hlt' : (k : Int) < (hs.length : Int) := by omega
        clear hown hO3 hgr hsz hl2 hN HK er
        go_wp2
        go_roundw
        case rel => exact ⟨k + 1, by omega, by go_num, by have := HCC.out; congr 1; omega, by rw [HNX.out]; exact HN.out, HZ1.out, HG1.out⟩
        case measure => simp [intOf]; omega
      · have e : k = hs.length := by omega
        have hlt' : ¬ (k : Int) < (hs.length : Int) := by omega
        have HF : Hid (OwnHop wr B (.slice (some ⟨g, 0, none⟩) hs.length cap1) (marksHop k0 hs.length) ∧ wr.heap.size = W.heap.size ∧ W.grownBy wr (some g)) := by
          have := HK.out
          rw [e, markedHop_all] at this
          exact this
        clear HK
        go_wp2
        go_ret
        exact ⟨by congr 2, HF.out⟩

set_option maxRecDepth 100000 in
set_option maxHeartbeats 2000000 in
theorem heldHops_yes (W : World) (v : Value) (k0 n : Nat) (h : ReadsHop W v (marksHop k0 n)) (hl : n ≤ 4194304) (hk1 : k0 ≤ 1000000000) :
    Calls Try.prog 18 #[v, .int .i64 (k0 : Int)] W fun e W' => e = .returned (.int .i64 ((k0 + 2 * n : Nat) : Int)) ∧ W' = W := by
  obtain ⟨a1, cap1, hv, hc1⟩ := h
  rw [marksHop_len] at hv
  subst hv
  by_cases hn : n = 0
  · subst hn
    clear hc1
    go_enter Try.func18, Try.ntmps18
    go_wp2
    refine wp_loop_rounds 1 ?_
    rw [rounds_succ]
    go_wp2
    go_ret
    exact ⟨by simp, rfl⟩
  · obtain ⟨g1, o1, rfl, -, hc1⟩ := hc1.resolve_left (fun e => hn (by rw [← marksHop_len k0 n, e]; rfl))
    have HC1 : Hid (∀ j, j < n → HopAt W g1 (o1 + j * 2) (markHop (k0 + 2 * j))) := fun j hj => by
      have := hc1 j (by rw [marksHop_len]; exact hj)
      rw [marksHop_get] at this
      exact this
    clear hc1 hn
    go_enter Try.func18, Try.ntmps18
    go_wp2
    go_loop [1, 5] (fun x i => ∃ k : Nat, k ≤ n ∧ i = .int .i64 k ∧ x = .int .i64 ((k0 : Int) + 2 * (k : Int))) (fun _ i => n - (intOf i).toNat)
    case atStart => exact ⟨0, Nat.zero_le _, rfl, by simp⟩
    case round =>
      obtain ⟨k, hk, rfl, rfl⟩ := hrel
      by_cases hlt : k < n
      · obtain ⟨q0, q1⟩ := HC1.out k hlt
        have er : ((k0 : Int) + 2 * (k : Int)) = ((k0 + 2 * k : Nat) : Int) := by omega
        rw [er]
        have hkb : k0 + 2 * k ≤ 1100000000 := by omega
        have HCC : Hid (k0 + 2 * k + 2 = k0 + 2 * (k + 1)) := by show _ = _; omega
        generalize k0 + 2 * k = c at *
        have q0' : W.cell? ⟨g1, o1 + k * 2, none⟩ = some (.int .i64 ((c : Int))) := q0
        have q1' : W.cell? ⟨g1, o1 + k * 2 + 1, none⟩ = some (.int .i64 ((c : Int) + 1)) := q1
        have hlt' : (k : Int) < (n : Int) := by omega
        clear q0 q1 er
        go_wp2
        go_round
        case rel => exact ⟨k + 1, by omega, by go_num, by have := HCC.out; congr 1; omega⟩
        case measure => simp [intOf]; omega
      · have e : k = n := by omega
        have hlt' : ¬ (k : Int) < (n : Int) := by omega
        go_wp2
        go_ret
        exact ⟨by congr 2, rfl⟩
end Go.Proofs.Ythlbmkefjjckaag
