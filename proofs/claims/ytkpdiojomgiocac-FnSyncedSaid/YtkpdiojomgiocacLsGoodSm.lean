/-
  'havesWithin' and 'GoodSummary' of the program, 'GoodSummary' of the model.
-/
import Derived.Test.YtkpdiojomgiocacLsSync
import Derived.Test.YtkpdiojomgiocacLsLies
import Derived.Test.YtkpdiojomgiocacLsGood
import Derived.Test.YtkpdiojomgiocacLsGoodS
import Derived.BigQuiet
namespace Go.Proofs.Ytkpdiojomgiocac
open Go.RowKit
set_option linter.unusedVariables false

theorem within_snoc (l : List HvD) (lo hi : Int) (k : Nat) (h : k < l.length) : withinHv (l.take (k + 1)) lo hi = if decide (lo ≤ l[k].From ∧ l[k].From ≤ hi) = true then withinHv (l.take k) lo hi ++ [l[k]] else withinHv (l.take k) lo hi := by
  unfold withinHv
  rw [List.take_succ_eq_append_getElem h, List.filter_append]
  by_cases hp : lo ≤ l[k].From ∧ l[k].From ≤ hi
  · rw [if_pos (decide_eq_true hp)]
    simp [hp]
  · rw [if_neg (by simp; omega)]
    have : List.filter (fun x : HvD => decide (lo ≤ x.From ∧ x.From ≤ hi)) [l[k]] = [] := by simp; omega
    rw [this, List.append_nil]

set_option maxRecDepth 100000 in
set_option maxHeartbeats 4000000 in
theorem havesWithin_any (W : World) (v : Value) (l : List HvD) (lo hi : Int) (h : ReadsHv W v l) (hl : l.length ≤ 100000) :
    Calls Try.prog 40 #[v, .int .i64 lo, .int .i64 hi] W fun e W' => ∃ v', e = .returned v' ∧ OwnHv W' W.heap.size v' (withinHv l lo hi) ∧ Below W.heap.size W W' := by
  obtain ⟨a1, cap1, rfl, hc1⟩ := h
  by_cases hz : l = []
  · subst hz
    simp only [List.length_nil] at *
    clear hc1
    go_enter Try.func40, Try.ntmps40
    go_wp2
    refine wp_loop_rounds 1 ?_
    rw [rounds_succ]
    go_wp2
    go_ret
    exact ⟨_, rfl, OwnHv.nil _ _, Below.refl _ _⟩
  · obtain ⟨g1, o1, rfl, hg1, hc1⟩ := hc1.resolve_left hz
    have HC1 : Hid (∀ wr, Below W.heap.size W wr → ∀ j (hj : j < l.length), HvAt wr g1 (o1 + j * 2) l[j]) := fun wr hB j hj => (hc1 j hj).below hg1 hB
    have HST : Hid (∀ k (hk : k < l.length), withinHv (l.take (k + 1)) lo hi = if decide (lo ≤ l[k].From ∧ l[k].From ≤ hi) = true then withinHv (l.take k) lo hi ++ [l[k]] else withinHv (l.take k) lo hi) := within_snoc l lo hi
    have HLN : Hid (∀ k, k ≤ l.length → (withinHv (l.take k) lo hi).length ≤ 100000) := fun k hk => by
      have := List.length_filter_le (fun x : HvD => decide (lo ≤ x.From ∧ x.From ≤ hi)) (l.take k)
      rw [List.length_take] at this
      unfold withinHv
      omega
    clear hc1 hg1 hz
    have HB0 : Hid (OwnHv W W.heap.size (.slice none 0 0) (withinHv (l.take 0) lo hi) ∧ Below W.heap.size W W) := ⟨OwnHv.nil _ _, Below.refl _ _⟩
    go_enter Try.func40, Try.ntmps40
    go_wp2
    go_loopw [7, 12] (fun u i wr => ∃ (k : Nat) (a : Option Addr) (c : Nat), k ≤ l.length ∧ i = .int .i64 k ∧ u = .slice a (withinHv (l.take k) lo hi).length c ∧ Hid (OwnHv wr W.heap.size (.slice a (withinHv (l.take k) lo hi).length c) (withinHv (l.take k) lo hi) ∧ Below W.heap.size W wr)) (fun _ i _ => l.length - (intOf i).toNat)
    case atStart => exact ⟨0, none, 0, Nat.zero_le _, rfl, rfl, HB0.out⟩
    case round =>
      obtain ⟨k, a, c, hk, rfl, rfl, HK⟩ := hrel
      by_cases hlt : k < l.length
      · have hlt' : (k : Int) < (l.length : Int) := by omega
        obtain ⟨q0, q1⟩ := HC1.out wr HK.out.2 k hlt
        have HS := HST.out k hlt
        have hln := HLN.out k hk
        have HB1 : Hid (Below W.heap.size W (wr.alloc (.cells #[.int .i64 l[k].From, .int .i64 l[k].Seq] 41)) ∧ W.heap.size ≤ wr.heap.size) := ⟨HK.out.2.alloc HK.out.2.size _, HK.out.2.size⟩
        have HO1 : Hid (OwnHv wr W.heap.size (.slice a (withinHv (l.take k) lo hi).length c) (withinHv (l.take k) lo hi)) := HK.out.1
        clear HK
        generalize l[k] = y at *
        generalize hw1 : withinHv (l.take k) lo hi = ml at *
        generalize hw2 : withinHv (l.take (k + 1)) lo hi = m2 at *
        clear hw1
        by_cases h1 : lo ≤ y.From
        · have d1 : decide (lo ≤ y.From) = true := decide_eq_true h1
          by_cases h2 : y.From ≤ hi
          · have d2 : decide (y.From ≤ hi) = true := decide_eq_true h2
            have HE : Hid (m2 = ml ++ [y]) := by show _ = _; rw [HS, if_pos (decide_eq_true ⟨h1, h2⟩)]
            have HA : Hid (∀ ty, ∃ v' w', (Builtin.append_ #[23, 23] ty #[.slice a ml.length c, .slice (some ⟨wr.heap.size + 1, 0, none⟩) 1 1]).run Try.prog ((wr.alloc (.cells #[.int .i64 y.From, .int .i64 y.Seq] 41)).alloc (.cells #[.int .i64 y.From, .int .i64 y.Seq] 41)) = .ok v' w' ∧ AppTo ((wr.alloc (.cells #[.int .i64 y.From, .int .i64 y.Seq] 41)).alloc (.cells #[.int .i64 y.From, .int .i64 y.Seq] 41)) W.heap.size (ml ++ [y]) v' w') := by
              have := run_to ((wr.alloc (.cells #[.int .i64 y.From, .int .i64 y.Seq] 41)).alloc (.cells #[.int .i64 y.From, .int .i64 y.Seq] 41)) W.heap.size (.slice a ml.length c) ml (HO1.out.below (((Below.refl _ wr).alloc (Nat.le_refl _) _).alloc (by simp) _)) _ [y] 1 rfl (src_new (wr.alloc (.cells #[.int .i64 y.From, .int .i64 y.Seq] 41)) y 1) (by simp <;> omega) (by have := HB1.out.2; simp; omega)
              rw [show (wr.alloc (.cells #[.int .i64 y.From, .int .i64 y.Seq] 41)).heap.size = wr.heap.size + 1 by simp] at this
              exact this
            have HZ : Hid (Below W.heap.size W ((wr.alloc (.cells #[.int .i64 y.From, .int .i64 y.Seq] 41)).alloc (.cells #[.int .i64 y.From, .int .i64 y.Seq] 41))) := HB1.out.1.alloc HB1.out.1.size _
            clear HS h1 h2 HO1
            go_wp2_with (at_builtin; refine list_app (by rfl) (.tmp 26) (.tmp 28) 23 (by rfl) (.slice a ml.length c) (.slice (some ⟨wr.heap.size + 1, 0, none⟩) 1 1) (by rfl) (by rfl) _ HA.out ?_; intro v2 w2 hg2; have HF : Hid (OwnHv w2 W.heap.size v2 m2 ∧ Below W.heap.size W w2) := ⟨by rw [HE.out]; exact hg2.own, HZ.out.trans hg2.below⟩; clear hg2)
            obtain ⟨a4, c4, rfl⟩ := HF.out.1.shape
            go_roundw
            case rel => exact ⟨k + 1, a4, c4, by omega, by go_num, by rw [hw2], by rw [hw2]; exact HF.out⟩
            case measure => simp [intOf]; omega
          · have d2 : decide (y.From ≤ hi) = false := decide_eq_false h2
            have HE : Hid (m2 = ml) := by show _ = _; rw [HS, if_neg (by simp; omega)]
            have HF : Hid (OwnHv (wr.alloc (.cells #[.int .i64 y.From, .int .i64 y.Seq] 41)) W.heap.size (.slice a ml.length c) ml) := HO1.out.below ((Below.refl _ wr).alloc (Nat.le_refl _) _)
            clear HS h1 h2 HO1
            go_wp2
            go_roundw
            case rel => exact ⟨k + 1, a, c, by omega, by go_num, by rw [hw2, HE.out], by rw [hw2, HE.out]; exact ⟨HF.out, HB1.out.1⟩⟩
            case measure => simp [intOf]; omega
        · have d1 : decide (lo ≤ y.From) = false := decide_eq_false h1
          have HE : Hid (m2 = ml) := by show _ = _; rw [HS, if_neg (by simp; omega)]
          have HF : Hid (OwnHv (wr.alloc (.cells #[.int .i64 y.From, .int .i64 y.Seq] 41)) W.heap.size (.slice a ml.length c) ml) := HO1.out.below ((Below.refl _ wr).alloc (Nat.le_refl _) _)
          clear HS h1 HO1
          go_wp2
          go_roundw
          case rel => exact ⟨k + 1, a, c, by omega, by go_num, by rw [hw2, HE.out], by rw [hw2, HE.out]; exact ⟨HF.out, HB1.out.1⟩⟩
          case measure => simp [intOf]; omega
      · have hlt' : ¬ (k : Int) < (l.length : Int) := by omega
        have e : k = l.length := by omega
        subst e
        rw [List.take_length] at HK
        go_wp2
        go_ret
        exact ⟨_, rfl, HK.out⟩
end Go.Proofs.Ytkpdiojomgiocac
