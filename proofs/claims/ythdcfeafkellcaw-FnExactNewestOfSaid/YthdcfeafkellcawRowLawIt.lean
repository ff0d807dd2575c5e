/-
  What the laws' functions over lists of items answer: 'sz', 'to', 'eq', 'mark', 'held'.
-/
import Derived.Test.YthdcfeafkellcawRowIt
namespace Go.Proofs.Ythdcfeafkellcaw
open Go.RowKit
set_option linter.unusedVariables false

theorem szIt_any (W : World) (x : ItD) (left : Int) (hx : x.text.size ≤ maxLen) (h0 : 0 ≤ left) (h1 : left ≤ 1048576) :
    Calls Try.prog 7 #[.agg #[.int .i64 x.frm, .int .i64 x.seq, .int .i64 x.age, .string x.text], .int .i64 left] W fun e W' => e = .returned (.int .i64 (if (x.text.size : Int) ≤ left then left - x.text.size else -1)) ∧ Below W.heap.size W W' := by
  have HB : Hid (Below W.heap.size W (W.alloc (.cells #[.int .i64 x.frm, .int .i64 x.seq, .int .i64 x.age, .string x.text] 23))) := (Below.refl _ W).alloc (Nat.le_refl _) _
  unfold maxLen at hx
  by_cases hle : (x.text.size : Int) ≤ left
  · rw [if_pos hle]
    have e : ¬ (left - (x.text.size : Int) < 0) := by omega
    go_enter Try.func7, Try.ntmps7
    go_wp2
    go_ret
    exact ⟨rfl, HB.out⟩
  · rw [if_neg hle]
    have e : left - (x.text.size : Int) < 0 := by omega
    go_enter Try.func7, Try.ntmps7
    go_wp2
    go_ret
    exact ⟨rfl, HB.out⟩

set_option maxRecDepth 100000 in
set_option maxHeartbeats 2000000 in
theorem szIts_any (W : World) (v : Value) (hs : List ItD) (left : Int) (h : ReadsIt W v hs) (hl : hs.length ≤ maxLen) (ht : ∀ x ∈ hs, x.text.size ≤ maxLen) (h0 : 0 ≤ left) (h1 : left ≤ 1048576) :
    Calls Try.prog 14 #[v, .int .i64 left] W fun e W' => ∃ z : Int, e = .returned (.int .i64 z) ∧ (z < 0 ∨ (0 ≤ z ∧ (hs.length : Int) ≤ left)) ∧ Below W.heap.size W W' := by
  obtain ⟨a1, c1, rfl, hc⟩ := h
  unfold maxLen at hl
  by_cases hle : (hs.length : Int) ≤ left
  · have e : ¬ (left - (hs.length : Int) < 0) := by omega
    have HS0 : Hid (Since W.heap.size W W) := Since.start W
    by_cases hz : hs = []
    · subst hz
      clear hc ht
      simp only [List.length_nil] at *
      go_enter Try.func14, Try.ntmps14
      go_wp2
      refine wp_loop_rounds 1 ?_
      rw [rounds_succ]
      go_wp2
      go_ret
      exact ⟨_, rfl, .inr ⟨by omega, by simpa using h0⟩, HS0.out.1⟩
    · obtain ⟨g1, o1, rfl, hg1, hc1⟩ := hc.resolve_left hz
      have HC1 : Hid (∀ W1, Since W.heap.size W W1 → ∀ j (hj : j < hs.length), ItAt W1 g1 (o1 + j * 4) hs[j]) := fun W1 hS j hj => (hc1 j hj).below hg1 hS.1
      have HT : Hid (∀ x ∈ hs, x.text.size ≤ maxLen) := ht
      have HLE : Hid ((hs.length : Int) ≤ left) := hle
      clear hc1 hc hz ht hle
      go_enter Try.func14, Try.ntmps14
      go_wp2
      go_loopw [1, 5] (fun x i wr => ∃ (k : Nat) (L : Int), k ≤ hs.length ∧ i = .int .i64 k ∧ x = .int .i64 L ∧ 0 ≤ L ∧ L ≤ 1048576 ∧ Hid (Since W.heap.size W wr)) (fun _ i _ => hs.length - (intOf i).toNat)
      case atStart => exact ⟨0, _, Nat.zero_le _, rfl, rfl, by omega, by omega, HS0⟩
      case round =>
        obtain ⟨k, L, hk, rfl, rfl, hL0, hL1, HS⟩ := hrel
        by_cases hlt : k < hs.length
        · obtain ⟨q0, q1, q2, q3⟩ := HC1.out wr HS.out k hlt
          have htx : hs[k].text.size ≤ maxLen := HT.out _ (List.getElem_mem hlt)
          have hlt' : (k : Int) < (hs.length : Int) := by omega
          generalize hs[k] = x at *
          have HTX : Hid (x.text.size ≤ maxLen) := htx
          clear htx
          by_cases hx : (x.text.size : Int) ≤ L
          · have HP : Hid ((if (x.text.size : Int) ≤ L then L - x.text.size else -1) = L - x.text.size) := if_pos hx
            have n1 : ¬ (L - (x.text.size : Int) < 0) := by omega
            go_wp2_with fail
            refine (szIt_any _ x L HTX.out hL0 hL1).mono ?_
            rintro e w1 ⟨rfl, hb⟩
            rw [HP.out]
            have HS1 : Hid (Since W.heap.size W w1) := HS.out.step hb
            clear hb
            go_wp2
            go_roundw
            case rel => exact ⟨k + 1, _, by omega, by go_num, rfl, by omega, by omega, HS1⟩
            case measure => simp [intOf]; omega
          · have HP : Hid ((if (x.text.size : Int) ≤ L then L - x.text.size else -1) = -1) := if_neg hx
            go_wp2_with fail
            refine (szIt_any _ x L HTX.out hL0 hL1).mono ?_
            rintro e w1 ⟨rfl, hb⟩
            rw [HP.out]
            have HS1 : Hid (Since W.heap.size W w1) := HS.out.step hb
            clear hb
            go_wp2
            go_ret
            exact ⟨_, rfl, .inl (by omega), HS1.out.1⟩
        · have hlt' : ¬ (k : Int) < (hs.length : Int) := by omega
          go_wp2
          go_ret
          exact ⟨L, rfl, Or.inr (And.intro hL0 HLE.out), HS.out.1⟩
  · have e : left - (hs.length : Int) < 0 := by omega
    clear hc ht
    go_enter Try.func14, Try.ntmps14
    go_wp2
    go_ret
    exact ⟨_, rfl, .inl (by omega), Below.refl _ _⟩

theorem toIt_any (W : World) (x : ItD) : Calls Try.prog 9 #[.agg #[.int .i64 x.frm, .int .i64 x.seq, .int .i64 x.age, .string x.text]] W fun e W' => e = .returned (.agg #[.int .i64 x.frm, .int .i64 x.seq, .int .i64 x.age, .string x.text]) ∧ Below W.heap.size W W' := by
  go_enter Try.func9, Try.ntmps9
  go_wp2
  refine bodyPost_ret (v := .agg #[.int .i64 x.frm, .int .i64 x.seq, .int .i64 x.age, .string x.text]) (by simp [results, Try.results9, go_sem]) rfl ⟨rfl, ?_⟩
  exact (((Below.refl _ W).alloc (Nat.le_refl _) _).alloc (by simp) _).alloc (by simp; omega) _

def noIt : ItD := ⟨0, 0, 0, ByteArray.empty⟩
theorem madeIt : ∀ n : Nat, (madeCells #[.int .i64 0, .int .i64 0, .int .i64 0, .string ByteArray.empty] (n * 4)).toList = cellsIt (List.replicate n noIt)
  | 0 => by simp [madeCells, cellsIt]
  | n + 1 => by
    have e : (n + 1) * 4 = n * 4 + 1 + 1 + 1 + 1 := by omega
    have ih := madeIt n
    have m0 : (n * 4) % 4 = 0 := by omega
    have m1 : (n * 4 + 1) % 4 = 1 := by omega
    have m2 : (n * 4 + 1 + 1) % 4 = 2 := by omega
    have m3 : (n * 4 + 1 + 1 + 1) % 4 = 3 := by omega
    rw [List.replicate_succ', cellsIt_app, ← ih, e]
    unfold madeCells
    simp [Array.range_succ, cellsIt, m0, m1, m2, m3, noIt]

theorem makeIts (n : Nat) (hn : n ≤ 4194304) (w : World) : ∃ W1 : World,
    (Instr.makeSlice 37 (.int .i64 (n : Int)) (.int .i64 (n : Int))).run Try.prog w = .ok (.slice (some ⟨w.heap.size, 0, none⟩) n n) W1 ∧
    OwnIt W1 w.heap.size (.slice (some ⟨w.heap.size, 0, none⟩) n n) (List.replicate n noIt) ∧ Below w.heap.size w W1 ∧ w.heap.size < W1.heap.size := by
  obtain ⟨i0, hi, hz0, hz1, hz2⟩ := info_parts infoIt
  obtain ⟨w', hr, ho, hg⟩ := run_make_full (P := Try.prog) w w.heap.size 37 27 i0 _ 4 Try.underlying37 hi hz0 hz1 .i64 .i64 n (by rw [hz2]; omega) (by unfold maxLen; omega) (Nat.le_refl _)
  have hlt := (World.ownsRow.lt ho w.heap.size rfl).2
  refine ⟨w', hr, ?_, (Below.refl _ w).grown hg (Nat.le_refl _) (fun k hk => by cases hk), hlt⟩
  unfold OwnIt
  rw [List.length_replicate]
  rw [show (Value.agg #[.int .i64 0, .int .i64 0, .int .i64 0, .string ByteArray.empty]).cells = #[.int .i64 0, .int .i64 0, .int .i64 0, .string ByteArray.empty] from rfl, madeIt] at ho
  exact ho

/-- The list of which the first k are copied. -/
theorem to_nextIt (hs : List ItD) (k : Nat) (h : k < hs.length) : hs.take (k + 1) ++ List.replicate (hs.length - (k + 1)) noIt = (hs.take k ++ List.replicate (hs.length - k) noIt).set k hs[k] := by
  have e : hs.length - k = (hs.length - (k + 1)) + 1 := by omega
  rw [e, List.replicate_succ, List.set_append_right _ _ (by simp; omega), List.take_succ_eq_append_getElem h]
  have e2 : k - (hs.take k).length = 0 := by simp; omega
  rw [e2, List.set_cons_zero, List.append_assoc]
  rfl

set_option maxRecDepth 100000 in
set_option maxHeartbeats 2000000 in
theorem toIts_any (W : World) (v : Value) (hs : List ItD) (h : ReadsIt W v hs) (hl : hs.length ≤ 4194304) :
    Calls Try.prog 16 #[v] W fun e W' => ∃ v', e = .returned v' ∧ OwnIt W' W.heap.size v' hs ∧ Below W.heap.size W W' := by
  obtain ⟨a1, cap1, rfl, hc1⟩ := h
  obtain ⟨W1, hmake, ho, hb, hlt⟩ := makeIts hs.length hl W
  obtain ⟨H, hH⟩ : ∃ H, H = W.heap.size := ⟨_, rfl⟩
  rw [← hH] at hmake ho hb hlt ⊢
  have HB : Hid (Below H W W1) := hb
  have HO : Hid (OwnIt W1 H (.slice (some ⟨H, 0, none⟩) hs.length hs.length) (List.replicate hs.length noIt)) := ho
  have HHW : Hid (H = W.heap.size) := hH
  have HLT : Hid (H < W1.heap.size) := hlt
  clear ho hb hH hlt
  rcases hc1 with rfl | ⟨g1, o1, rfl, hg1, hc1⟩
  · simp only [List.length_nil] at HO ⊢
    have hm0 : (Instr.makeSlice 37 (.int .i64 0) (.int .i64 0)).run Try.prog W = .ok (.slice (some ⟨H, 0, none⟩) 0 0) W1 := hmake
    clear hmake
    go_enter Try.func16, Try.ntmps16
    go_wp2
    refine wp_loop_rounds 1 ?_
    rw [rounds_succ]
    go_wp2
    go_ret
    exact ⟨_, rfl, HO.out, HB.out⟩
  · have HC1 : Hid (∀ wr, Below H W wr → ∀ j (hj : j < hs.length), ItAt wr g1 (o1 + j * 4) hs[j]) := fun wr hS j hj => (hc1 j hj).below hg1 (by rw [← HHW.out]; exact hS)
    clear hc1
    go_enter Try.func16, Try.ntmps16
    go_wp2
    go_loopw [4] (fun i wr => ∃ k : Nat, k ≤ hs.length ∧ i = .int .i64 k ∧ Hid (OwnIt wr H (.slice (some ⟨H, 0, none⟩) hs.length hs.length) (hs.take k ++ List.replicate (hs.length - k) noIt) ∧ Below H W wr ∧ H < wr.heap.size)) (fun i _ => hs.length - (intOf i).toNat)
    case atStart => exact ⟨0, Nat.zero_le _, rfl, by simpa using HO.out, HB.out, HLT.out⟩
    case round =>
      obtain ⟨k, hk, rfl, HK⟩ := hrel
      by_cases hlt2 : k < hs.length
      · obtain ⟨hown, hbr, hHr⟩ := HK.out
        obtain ⟨q0, q1, q2, q3⟩ := HC1.out wr hbr k hlt2
        have HNX : Hid (hs.take (k + 1) ++ List.replicate (hs.length - (k + 1)) noIt = (hs.take k ++ List.replicate (hs.length - k) noIt).set k hs[k]) := to_nextIt hs k hlt2
        have hlt' : (k : Int) < (hs.length : Int) := by omega
        have HLQ : Hid ((hs.take k ++ List.replicate (hs.length - k) noIt).length = hs.length) := by show _ = _; simp; omega
        generalize hs[k] = x at *
        have HOW : Hid (OwnIt wr H (.slice (some ⟨H, 0, none⟩) hs.length hs.length) (hs.take k ++ List.replicate (hs.length - k) noIt)) := hown
        have HBR : Hid (Below H W wr) := hbr
        have HHR : Hid (H < wr.heap.size) := hHr
        clear hown hbr hHr HK
        go_wp2_with fail
        refine (toIt_any _ x).mono ?_
        rintro e w2 ⟨rfl, hb2⟩
        have hO2 := HOW.out.below hb2
        generalize hs.take k ++ List.replicate (hs.length - k) noIt = qs at *
        have hql := HLQ.out
        have hO3 : OwnIt w2 H (.slice (some ⟨H, 0, none⟩) qs.length hs.length) qs := by rw [hql]; exact hO2
        have z0 : ∀ j, j < hs.length * 4 → ∃ c, w2.cell? ⟨H, j, none⟩ = some c := fun j hj => ⟨_, by rw [World.ownsRow.cellAt hO3 j (by omega)]; exact List.getElem?_eq_getElem (by rw [cellsIt_len]; omega)⟩
        obtain ⟨d0, f0⟩ := z0 (k * 4) (by omega)
        obtain ⟨d1, f1⟩ := z0 (k * 4 + 1) (by omega)
        obtain ⟨d2, f2⟩ := z0 (k * 4 + 2) (by omega)
        obtain ⟨d3, f3⟩ := z0 (k * 4 + 3) (by omega)
        have fz0 := World.ownsRow.frozenAt hO3 (k * 4)
        have fz1 := World.ownsRow.frozenAt hO3 (k * 4 + 1)
        have fz2 := World.ownsRow.frozenAt hO3 (k * 4 + 2)
        have fz3 := World.ownsRow.frozenAt hO3 (k * 4 + 3)
        have HON : Hid (OwnIt (((((w2).setCell ⟨H, k * 4, none⟩ (.int .i64 x.frm)).setCell ⟨H, k * 4 + 1, none⟩ (.int .i64 x.seq)).setCell ⟨H, k * 4 + 2, none⟩ (.int .i64 x.age)).setCell ⟨H, k * 4 + 3, none⟩ (.string x.text)) H (.slice (some ⟨H, 0, none⟩) hs.length hs.length) (qs.set k x)) := by
          have := hO3.set k (by omega) x
          rw [hql] at this
          exact this
        have HBN : Hid (Below H W (((((w2).setCell ⟨H, k * 4, none⟩ (.int .i64 x.frm)).setCell ⟨H, k * 4 + 1, none⟩ (.int .i64 x.seq)).setCell ⟨H, k * 4 + 2, none⟩ (.int .i64 x.age)).setCell ⟨H, k * 4 + 3, none⟩ (.string x.text))) :=
          ((((HBR.out.trans (hb2.mono (Nat.le_of_lt HHR.out))).setCell (Nat.le_refl _) _).setCell (Nat.le_refl _) _).setCell (Nat.le_refl _) _).setCell (Nat.le_refl _) _
        have HHN : Hid (H < (((((w2).setCell ⟨H, k * 4, none⟩ (.int .i64 x.frm)).setCell ⟨H, k * 4 + 1, none⟩ (.int .i64 x.seq)).setCell ⟨H, k * 4 + 2, none⟩ (.int .i64 x.age)).setCell ⟨H, k * 4 + 3, none⟩ (.string x.text)).heap.size) := by
          have := Nat.lt_of_lt_of_le HHR.out hb2.size
          show _ < _
          simpa [World.setCell] using this
        clear hb2 hO2 hO3 z0 HOW hql
        go_wp2
        go_roundw
        case rel => exact ⟨k + 1, by omega, by go_num, by rw [HNX.out]; exact HON.out, HBN.out, HHN.out⟩
        case measure => simp [intOf]; omega
      · have hlt' : ¬ (k : Int) < (hs.length : Int) := by omega
        have e : k = hs.length := by omega
        subst e
        have HFIN : Hid (OwnIt wr H (.slice (some ⟨H, 0, none⟩) hs.length hs.length) hs ∧ Below H W wr) := by
          obtain ⟨hown, hbr, -⟩ := HK.out
          exact ⟨by simpa using hown, hbr⟩
        clear HK
        go_wp2
        go_ret
        exact ⟨_, rfl, HFIN.out.1, HFIN.out.2⟩

theorem eqIt_same (W : World) (x : ItD) : Calls Try.prog 13 #[.agg #[.int .i64 x.frm, .int .i64 x.seq, .int .i64 x.age, .string x.text], .agg #[.int .i64 x.frm, .int .i64 x.seq, .int .i64 x.age, .string x.text]] W fun e W' => e = .returned (.bool true) ∧ Below W.heap.size W W' := by
  go_enter Try.func13, Try.ntmps13
  go_wp2
  go_ret
  exact ⟨rfl, ((Below.refl _ W).alloc (Nat.le_refl _) _).alloc (by simp) _⟩

set_option maxRecDepth 100000 in
set_option maxHeartbeats 2000000 in
theorem eqIts_same (W : World) (v1 v2 : Value) (hs : List ItD) (h1 : ReadsIt W v1 hs) (h2 : ReadsIt W v2 hs) (hl : hs.length ≤ 4194304) :
    Calls Try.prog 18 #[v1, v2] W fun e W' => e = .returned (.bool true) ∧ Below W.heap.size W W' := by
  obtain ⟨a1, cap1, rfl, hc1⟩ := h1
  obtain ⟨a2, cap2, rfl, hc2⟩ := h2
  by_cases hz : hs = []
  · subst hz
    simp only [List.length_nil]
    clear hc1 hc2
    go_enter Try.func18, Try.ntmps18
    go_wp2
    refine wp_loop_rounds 1 ?_
    rw [rounds_succ]
    go_wp2
    go_ret
    exact ⟨rfl, Below.refl _ _⟩
  · obtain ⟨g1, o1, rfl, hg1, hc1⟩ := hc1.resolve_left hz
    obtain ⟨g2, o2, rfl, hg2, hc2⟩ := hc2.resolve_left hz
    have HC1 : Hid (∀ W1, Since W.heap.size W W1 → ∀ j (hj : j < hs.length), ItAt W1 g1 (o1 + j * 4) hs[j]) := fun W1 hS j hj => (hc1 j hj).below hg1 hS.1
    have HC2 : Hid (∀ W1, Since W.heap.size W W1 → ∀ j (hj : j < hs.length), ItAt W1 g2 (o2 + j * 4) hs[j]) := fun W1 hS j hj => (hc2 j hj).below hg2 hS.1
    have HS0 : Hid (Since W.heap.size W W) := Since.start W
    clear hc1 hc2 hz
    go_enter Try.func18, Try.ntmps18
    go_wp2
    go_loopw [5] (fun i wr => ∃ k : Nat, k ≤ hs.length ∧ i = .int .i64 k ∧ Hid (Since W.heap.size W wr)) (fun i _ => hs.length - (intOf i).toNat)
    case atStart => exact ⟨0, Nat.zero_le _, rfl, HS0⟩
    case round =>
      obtain ⟨k, hk, rfl, HS⟩ := hrel
      by_cases hlt : k < hs.length
      · obtain ⟨q0, q1, q2, q3⟩ := HC1.out wr HS.out k hlt
        obtain ⟨r0, r1, r2, r3⟩ := HC2.out wr HS.out k hlt
        have hlt' : (k : Int) < (hs.length : Int) := by omega
        generalize hs[k] = x at *
        go_wp2
        go_region_with (go_at_call 13; refine (eqIt_same _ x).mono ?_; rintro e w1 ⟨rfl, hb⟩)
        all_goals
          have HS1 : Hid (Since W.heap.size W w1) := HS.out.drew.step hb
          clear hb
          go_wp2
          go_roundw
          case rel => exact ⟨k + 1, by omega, by go_num, HS1⟩
          case measure => simp [intOf]; omega
      · have hlt' : ¬ (k : Int) < (hs.length : Int) := by omega
        go_wp2
        go_ret
        exact ⟨rfl, HS.out.1⟩
end Go.Proofs.Ythdcfeafkellcaw
