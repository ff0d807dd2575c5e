/-
  What the model's 'l7Ask' answers.
-/
import Derived.Test.YtkpdiojomgiocacLsAsk
import Derived.Test.YtkpdiojomgiocacLsSeq
import Derived.Test.YtkpdiojomgiocacRowLaw0
namespace Go.Proofs.Ytkpdiojomgiocac
open Go.RowKit
set_option linter.unusedVariables false

theorem asks_snoc (l hs : List HvD) (k : Nat) (h : k < hs.length) : fromsOf (newsHv (hs.take (k + 1)) l) = if seqIn l hs[k].From < hs[k].Seq then fromsOf (newsHv (hs.take k) l) ++ [hs[k].From] else fromsOf (newsHv (hs.take k) l) := by
  unfold fromsOf newsHv
  rw [List.take_succ_eq_append_getElem h, List.filter_append, List.map_append]
  by_cases hp : seqIn l hs[k].From < hs[k].Seq
  · rw [if_pos hp]
    simp [hp]
  · rw [if_neg hp]
    have : List.filter (fun x : HvD => decide (seqIn l x.From < x.Seq)) [hs[k]] = [] := by simp; omega
    rw [this]
    simp
theorem more_snoc (l : List HvD) (s : SmD) (k : Nat) (h : k < l.length) : beyondHv (l.take (k + 1)) s = if (s.Lo ≤ l[k].From ∧ l[k].From ≤ s.Hi) ∧ seqIn s.Hs l[k].From < l[k].Seq then beyondHv (l.take k) s ++ [l[k]] else beyondHv (l.take k) s := by
  rw [beyondHv_eq, beyondHv_eq, List.take_succ_eq_append_getElem h, List.filter_append]
  by_cases hp : (s.Lo ≤ l[k].From ∧ l[k].From ≤ s.Hi) ∧ seqIn s.Hs l[k].From < l[k].Seq
  · rw [if_pos hp]
    simp [hp]
  · rw [if_neg hp]
    have : List.filter (fun x : HvD => decide (s.Lo ≤ x.From ∧ x.From ≤ s.Hi) && decide (seqIn s.Hs x.From < x.Seq)) [l[k]] = [] := by
      by_cases h1 : s.Lo ≤ l[k].From ∧ l[k].From ≤ s.Hi
      · have h2 : ¬ seqIn s.Hs l[k].From < l[k].Seq := fun h2 => hp ⟨h1, h2⟩
        simp [h1, h2]
      · simp [h1]
    rw [this, List.append_nil]
theorem asks_long (l hs : List HvD) (k : Nat) (h : hs.length ≤ 50000) : (fromsOf (newsHv (hs.take k) l)).length ≤ 50000 := by
  have := List.length_filter_le (fun x : HvD => decide (seqIn l x.From < x.Seq)) (hs.take k)
  rw [List.length_take] at this
  unfold fromsOf newsHv
  rw [List.length_map]
  omega
theorem more_long (l : List HvD) (s : SmD) (k : Nat) (h : l.length ≤ 50000) : (beyondHv (l.take k) s).length ≤ 50000 := by
  rw [beyondHv_eq]
  have := List.length_filter_le (fun x : HvD => decide (s.Lo ≤ x.From ∧ x.From ≤ s.Hi) && decide (seqIn s.Hs x.From < x.Seq)) (l.take k)
  rw [List.length_take] at this
  omega
def AskPost2 (W : World) (asks : List Int) (more : List HvD) (e : Ending) (W' : World) : Prop := ∃ u1 u2, e = .returned (.tuple #[u1, u2]) ∧ Own W' W.heap.size u1 asks ∧ OwnHv W' W.heap.size u2 more ∧ Below W.heap.size W W'

set_option maxRecDepth 100000 in
set_option maxHeartbeats 8000000 in
theorem l7Ask_nn (W : World) (lo hi : Int) (h1 : LiesHv W (.slice none 0 0) []) (h2 : LiesHv W (.slice none 0 0) []) :
    Calls Try.prog 35 #[.slice none 0 0, .agg #[.int .i64 lo, .int .i64 hi, .slice none 0 0]] W (AskPost2 W (fromsOf (newsHv [] [])) (beyondHv [] ⟨lo, hi, []⟩)) := by
  have HB1 : Hid (Below W.heap.size W (W.alloc (.cells #[.int .i64 lo, .int .i64 hi, .slice none 0 0] 32))) := (Below.refl _ W).alloc (Nat.le_refl _) _
  have HX : Hid (∀ w', Since (W.alloc (.cells #[.int .i64 lo, .int .i64 hi, .slice none 0 0] 32)).heap.size (W.alloc (.cells #[.int .i64 lo, .int .i64 hi, .slice none 0 0] 32)) w' → w'.cell? ⟨W.heap.size, 0, none⟩ = some (.int .i64 lo) ∧ w'.cell? ⟨W.heap.size, 1, none⟩ = some (.int .i64 hi) ∧ w'.cell? ⟨W.heap.size, 2, none⟩ = some (.slice none 0 0)) := fun w' hs => smNew W _ _ _ w' hs.1
  have H1 : Hid (∀ w', Since (W.alloc (.cells #[.int .i64 lo, .int .i64 hi, .slice none 0 0] 32)).heap.size (W.alloc (.cells #[.int .i64 lo, .int .i64 hi, .slice none 0 0] 32)) w' → LiesHv w' (.slice none 0 0) []) := fun w' hb => (h1.below HB1.out).below hb.1
  have H2 : Hid (∀ w', Since (W.alloc (.cells #[.int .i64 lo, .int .i64 hi, .slice none 0 0] 32)).heap.size (W.alloc (.cells #[.int .i64 lo, .int .i64 hi, .slice none 0 0] 32)) w' → LiesHv w' (.slice none 0 0) []) := fun w' hb => (h2.below HB1.out).below hb.1
  have SA0 : Hid (Since (W.alloc (.cells #[.int .i64 lo, .int .i64 hi, .slice none 0 0] 32)).heap.size (W.alloc (.cells #[.int .i64 lo, .int .i64 hi, .slice none 0 0] 32)) (W.alloc (.cells #[.int .i64 lo, .int .i64 hi, .slice none 0 0] 32))) := Since.start _
  have HWB : Hid (W.heap.size ≤ (W.alloc (.cells #[.int .i64 lo, .int .i64 hi, .slice none 0 0] 32)).heap.size) := HB1.out.size
  clear h1 h2
  go_enter Try.func35, Try.ntmps35
  go_wp2
  refine wp_loop_rounds 1 ?_
  rw [rounds_succ]
  have HZ1 : Hid (Own (W.alloc (.cells #[.int .i64 lo, .int .i64 hi, .slice none 0 0] 32)) (W.alloc (.cells #[.int .i64 lo, .int .i64 hi, .slice none 0 0] 32)).heap.size (.slice none (fromsOf (newsHv [] [])).length 0) (fromsOf (newsHv [] [])) ∧ Since (W.alloc (.cells #[.int .i64 lo, .int .i64 hi, .slice none 0 0] 32)).heap.size (W.alloc (.cells #[.int .i64 lo, .int .i64 hi, .slice none 0 0] 32)) (W.alloc (.cells #[.int .i64 lo, .int .i64 hi, .slice none 0 0] 32))) := ⟨Own.nil _ _, SA0.out⟩
  go_wp2
  refine wp_loop_rounds 1 ?_
  rw [rounds_succ]
  go_wp2
  refine bodyPost_ret (results_tmp2 rfl _ _ _) rfl ?_
  exact ⟨_, _, rfl, rowMono HZ1.out.1 HWB.out, OwnHv.nil _ _, HB1.out.trans (HZ1.out.2.1.mono HWB.out)⟩

set_option maxRecDepth 100000 in
set_option maxHeartbeats 8000000 in
theorem l7Ask_rn (W : World) (lo hi : Int) (g2 o2 c2 : Nat) (hs : List HvD) (h1 : LiesHv W (.slice none 0 0) []) (h2 : LiesHv W (.slice (some ⟨g2, o2, none⟩) hs.length c2) hs) (hls : hs.length ≤ 50000) :
    Calls Try.prog 35 #[.slice none 0 0, .agg #[.int .i64 lo, .int .i64 hi, .slice (some ⟨g2, o2, none⟩) hs.length c2]] W (AskPost2 W (fromsOf (newsHv hs [])) (beyondHv [] ⟨lo, hi, hs⟩)) := by
  have HB1 : Hid (Below W.heap.size W (W.alloc (.cells #[.int .i64 lo, .int .i64 hi, .slice (some ⟨g2, o2, none⟩) hs.length c2] 32))) := (Below.refl _ W).alloc (Nat.le_refl _) _
  have HX : Hid (∀ w', Since (W.alloc (.cells #[.int .i64 lo, .int .i64 hi, .slice (some ⟨g2, o2, none⟩) hs.length c2] 32)).heap.size (W.alloc (.cells #[.int .i64 lo, .int .i64 hi, .slice (some ⟨g2, o2, none⟩) hs.length c2] 32)) w' → w'.cell? ⟨W.heap.size, 0, none⟩ = some (.int .i64 lo) ∧ w'.cell? ⟨W.heap.size, 1, none⟩ = some (.int .i64 hi) ∧ w'.cell? ⟨W.heap.size, 2, none⟩ = some (.slice (some ⟨g2, o2, none⟩) hs.length c2)) := fun w' hs => smNew W _ _ _ w' hs.1
  have H1 : Hid (∀ w', Since (W.alloc (.cells #[.int .i64 lo, .int .i64 hi, .slice (some ⟨g2, o2, none⟩) hs.length c2] 32)).heap.size (W.alloc (.cells #[.int .i64 lo, .int .i64 hi, .slice (some ⟨g2, o2, none⟩) hs.length c2] 32)) w' → LiesHv w' (.slice none 0 0) []) := fun w' hb => (h1.below HB1.out).below hb.1
  have H2 : Hid (∀ w', Since (W.alloc (.cells #[.int .i64 lo, .int .i64 hi, .slice (some ⟨g2, o2, none⟩) hs.length c2] 32)).heap.size (W.alloc (.cells #[.int .i64 lo, .int .i64 hi, .slice (some ⟨g2, o2, none⟩) hs.length c2] 32)) w' → LiesHv w' (.slice (some ⟨g2, o2, none⟩) hs.length c2) hs) := fun w' hb => (h2.below HB1.out).below hb.1
  have SA0 : Hid (Since (W.alloc (.cells #[.int .i64 lo, .int .i64 hi, .slice (some ⟨g2, o2, none⟩) hs.length c2] 32)).heap.size (W.alloc (.cells #[.int .i64 lo, .int .i64 hi, .slice (some ⟨g2, o2, none⟩) hs.length c2] 32)) (W.alloc (.cells #[.int .i64 lo, .int .i64 hi, .slice (some ⟨g2, o2, none⟩) hs.length c2] 32))) := Since.start _
  have HWB : Hid (W.heap.size ≤ (W.alloc (.cells #[.int .i64 lo, .int .i64 hi, .slice (some ⟨g2, o2, none⟩) hs.length c2] 32)).heap.size) := HB1.out.size
  have CQ1 : Hid (∀ w' k, Since (W.alloc (.cells #[.int .i64 lo, .int .i64 hi, .slice (some ⟨g2, o2, none⟩) hs.length c2] 32)).heap.size (W.alloc (.cells #[.int .i64 lo, .int .i64 hi, .slice (some ⟨g2, o2, none⟩) hs.length c2] 32)) w' → Calls Try.prog 37 #[.slice none 0 0, .int .i64 k] w' fun e W' => e = .returned (.int .i64 (seqIn [] k)) ∧ Below w'.heap.size w' W') := fun w' k hb => l7Seq_any w' _ [] k (H1.out w' hb).reads (by simp)
  have CQ2 : Hid (∀ w' k, Since (W.alloc (.cells #[.int .i64 lo, .int .i64 hi, .slice (some ⟨g2, o2, none⟩) hs.length c2] 32)).heap.size (W.alloc (.cells #[.int .i64 lo, .int .i64 hi, .slice (some ⟨g2, o2, none⟩) hs.length c2] 32)) w' → Calls Try.prog 37 #[.slice (some ⟨g2, o2, none⟩) hs.length c2, .int .i64 k] w' fun e W' => e = .returned (.int .i64 (seqIn hs k)) ∧ Below w'.heap.size w' W') := fun w' k hb => l7Seq_any w' _ hs k (H2.out w' hb).reads (by omega)
  have SN1 : Hid (∀ k (h : k < hs.length), (fromsOf (newsHv (hs.take (k + 1)) [])) = if seqIn [] hs[k].From < hs[k].Seq then (fromsOf (newsHv (hs.take k) [])) ++ [hs[k].From] else (fromsOf (newsHv (hs.take k) []))) := asks_snoc [] hs
  have LN1 : Hid (∀ k, (fromsOf (newsHv (hs.take k) [])).length ≤ 50000) := fun k => asks_long [] hs k hls
  have HC2 : Hid (∀ wr, Since (W.alloc (.cells #[.int .i64 lo, .int .i64 hi, .slice (some ⟨g2, o2, none⟩) hs.length c2] 32)).heap.size (W.alloc (.cells #[.int .i64 lo, .int .i64 hi, .slice (some ⟨g2, o2, none⟩) hs.length c2] 32)) wr → ∀ j (hj : j < hs.length), HvAt wr g2 (o2 + j * 2) hs[j]) := fun wr hw j hj => by
    rcases H2.out wr hw with ⟨e, -⟩ | ⟨g, o, cap, e, -, -, hc⟩
    · cases e
    · simp only [Value.slice.injEq, Option.some.injEq, Addr.mk.injEq] at e
      obtain ⟨⟨rfl, rfl, -⟩, -, -⟩ := e
      exact hc j hj
  clear h1 h2
  go_enter Try.func35, Try.ntmps35
  go_wp2
  go_loopw [6, 15] (fun u i wr => ∃ (k : Nat) (a : Option Addr) (c : Nat), k ≤ hs.length ∧ i = .int .i64 k ∧ u = .slice a (fromsOf (newsHv (hs.take k) [])).length c ∧ Hid (Own wr (W.alloc (.cells #[.int .i64 lo, .int .i64 hi, .slice (some ⟨g2, o2, none⟩) hs.length c2] 32)).heap.size (.slice a (fromsOf (newsHv (hs.take k) [])).length c) (fromsOf (newsHv (hs.take k) [])) ∧ Since (W.alloc (.cells #[.int .i64 lo, .int .i64 hi, .slice (some ⟨g2, o2, none⟩) hs.length c2] 32)).heap.size (W.alloc (.cells #[.int .i64 lo, .int .i64 hi, .slice (some ⟨g2, o2, none⟩) hs.length c2] 32)) wr)) (fun _ i _ => hs.length - (intOf i).toNat)
  case atStart => exact ⟨0, none, 0, Nat.zero_le _, rfl, rfl, Own.nil _ _, SA0.out⟩
  case round =>
    obtain ⟨k, a, c, hk, rfl, rfl, HK⟩ := hrel
    by_cases hlt : k < hs.length
    · have hlt' : (k : Int) < (hs.length : Int) := by omega
      obtain ⟨m0, m1⟩ := HC2.out wr HK.out.2 k hlt
      obtain ⟨q0, q1, q2⟩ := HX.out wr HK.out.2
      have HN := SN1.out k hlt
      have hln := LN1.out k
      have HO2 : Hid (Own wr (W.alloc (.cells #[.int .i64 lo, .int .i64 hi, .slice (some ⟨g2, o2, none⟩) hs.length c2] 32)).heap.size (.slice a (fromsOf (newsHv (hs.take k) [])).length c) (fromsOf (newsHv (hs.take k) []))) := HK.out.1
      have SW0 : Hid (Since (W.alloc (.cells #[.int .i64 lo, .int .i64 hi, .slice (some ⟨g2, o2, none⟩) hs.length c2] 32)).heap.size (W.alloc (.cells #[.int .i64 lo, .int .i64 hi, .slice (some ⟨g2, o2, none⟩) hs.length c2] 32)) wr) := HK.out.2
      clear HK
      generalize hs[k] = x at *
      generalize hm1 : (fromsOf (newsHv (hs.take k) [])) = ml at *
      generalize hm2 : (fromsOf (newsHv (hs.take (k + 1)) [])) = m2 at *
      clear hm1
      have SW : Hid (Since (W.alloc (.cells #[.int .i64 lo, .int .i64 hi, .slice (some ⟨g2, o2, none⟩) hs.length c2] 32)).heap.size (W.alloc (.cells #[.int .i64 lo, .int .i64 hi, .slice (some ⟨g2, o2, none⟩) hs.length c2] 32)) (wr.alloc (.cells #[.int .i64 x.From, .int .i64 x.Seq] 41))) := SW0.out.step ((Below.refl _ wr).alloc (Nat.le_refl _) _)
      have HXX : Hid (∀ w', Since (wr.alloc (.cells #[.int .i64 x.From, .int .i64 x.Seq] 41)).heap.size (wr.alloc (.cells #[.int .i64 x.From, .int .i64 x.Seq] 41)) w' → (w'.cell? ⟨W.heap.size, 0, none⟩ = some (.int .i64 lo) ∧ w'.cell? ⟨W.heap.size, 1, none⟩ = some (.int .i64 hi) ∧ w'.cell? ⟨W.heap.size, 2, none⟩ = some (.slice (some ⟨g2, o2, none⟩) hs.length c2)) ∧ w'.cell? ⟨wr.heap.size, 0, none⟩ = some (.int .i64 x.From) ∧ w'.cell? ⟨wr.heap.size, 1, none⟩ = some (.int .i64 x.Seq)) := fun w' hs => ⟨HX.out w' (SW.out.tran hs), hvNew wr x w' hs⟩
      have HO3 : Hid (Own (wr.alloc (.cells #[.int .i64 x.From, .int .i64 x.Seq] 41)) (W.alloc (.cells #[.int .i64 lo, .int .i64 hi, .slice (some ⟨g2, o2, none⟩) hs.length c2] 32)).heap.size (.slice a ml.length c) ml) := rowBelow HO2.out ((Below.refl _ wr).alloc (Nat.le_refl _) _)
      clear HO2 SW0 q0 q1 q2
      by_cases hp : seqIn [] x.From < x.Seq
      · have HE : Hid (m2 = ml ++ [x.From]) := by show _ = _; rw [HN, if_pos hp]
        have hq : decide (seqIn [] x.From < x.Seq) = true := decide_eq_true hp
        clear HN hp
        go_wp2
        have SA0 := Since.start (wr.alloc (.cells #[.int .i64 x.From, .int .i64 x.Seq] 41))
        refine wp_region_held_drew (S := (fun w' => (w'.cell? ⟨W.heap.size, 0, none⟩ = some (.int .i64 lo) ∧ w'.cell? ⟨W.heap.size, 1, none⟩ = some (.int .i64 hi) ∧ w'.cell? ⟨W.heap.size, 2, none⟩ = some (.slice (some ⟨g2, o2, none⟩) hs.length c2)) ∧ w'.cell? ⟨wr.heap.size, 0, none⟩ = some (.int .i64 x.From) ∧ w'.cell? ⟨wr.heap.size, 1, none⟩ = some (.int .i64 x.Seq))) (by kernel_rfl) ?_ (fun hHeld => ?_)
        · exact HXX.out _ SA0.drew
        refine handRead 0 (some 19) (.slice none 0 0) rfl rfl (by kernel_rfl) (by kernel_rfl) (by kernel_rfl) (fun _ _ _ h => h) (by kernel_rfl) (by assumption) ?_ ?_
        · intro w hSw
          (try dsimp only at hSw)
          go_simp
        simp only [Act.put, List.setIfInBounds_toArray, List.set_cons_zero, List.set_cons_succ]
        refine handRead 1 (some 20) (.pointer (some ⟨wr.heap.size, 0, none⟩)) rfl rfl (by kernel_rfl) (by kernel_rfl) (by kernel_rfl) (fun _ _ _ h => h) (by kernel_rfl) (by assumption) ?_ ?_
        · intro w hSw
          (try dsimp only at hSw)
          go_simp
        simp only [Act.put, List.setIfInBounds_toArray, List.set_cons_zero, List.set_cons_succ]
        refine handRead 2 (some 21) (.int .i64 x.From) rfl rfl (by kernel_rfl) (by kernel_rfl) (by kernel_rfl) (fun _ _ _ h => h) (by kernel_rfl) (by assumption) ?_ ?_
        · intro w hSw
          (try dsimp only at hSw)
          go_simp
        simp only [Act.put, List.setIfInBounds_toArray, List.set_cons_zero, List.set_cons_succ]
        refine handRead 4 (some 23) (.pointer (some ⟨wr.heap.size, 1, none⟩)) rfl rfl (by kernel_rfl) (by kernel_rfl) (by kernel_rfl) (fun _ _ _ h => h) (by kernel_rfl) (by assumption) ?_ ?_
        · intro w hSw
          (try dsimp only at hSw)
          go_simp
        simp only [Act.put, List.setIfInBounds_toArray, List.set_cons_zero, List.set_cons_succ]
        refine handRead 5 (some 24) (.int .i64 x.Seq) rfl rfl (by kernel_rfl) (by kernel_rfl) (by kernel_rfl) (fun _ _ _ h => h) (by kernel_rfl) (by assumption) ?_ ?_
        · intro w hSw
          (try dsimp only at hSw)
          go_simp
        simp only [Act.put, List.setIfInBounds_toArray, List.set_cons_zero, List.set_cons_succ]
        refine handCall 3 (some 22) 37 #[.slice none 0 0, .int .i64 x.From] (by kernel_rfl) rfl rfl (by kernel_rfl) (by simp [go_sem]) ((CQ1.out _ _ (SW.out.tran SA0.drew)).mono ?_)
        rintro e w4 ⟨rfl, hb4⟩
        have SA1 := SA0.drew.step hb4
        clear hHeld hb4
        refine ⟨_, rfl, (by exact HXX.out _ SA1), fun hHeld => ?_⟩
        simp only [Act.put, List.setIfInBounds_toArray, List.set_cons_zero, List.set_cons_succ]
        refine handRead 6 (some 25) (.bool true) rfl rfl (by kernel_rfl) (by kernel_rfl) (by kernel_rfl) (fun _ _ _ h => h) (by kernel_rfl) (by assumption) ?_ ?_
        · intro w hSw
          (try dsimp only at hSw)
          go_simp
        simp only [Act.put, List.setIfInBounds_toArray, List.set_cons_zero, List.set_cons_succ]
        refine wpAnyH_done (by kernel_rfl) ?_ _
        have SW4 : Hid (Since (W.alloc (.cells #[.int .i64 lo, .int .i64 hi, .slice (some ⟨g2, o2, none⟩) hs.length c2] 32)).heap.size (W.alloc (.cells #[.int .i64 lo, .int .i64 hi, .slice (some ⟨g2, o2, none⟩) hs.length c2] 32)) w4) := SW.out.tran SA1
        have HO4 : Hid (Own w4 (W.alloc (.cells #[.int .i64 lo, .int .i64 hi, .slice (some ⟨g2, o2, none⟩) hs.length c2] 32)).heap.size (.slice a ml.length c) ml) := rowBelow HO3.out SA1.1
        have HA : Hid (∀ ty, ∃ v' w', (Builtin.append_ #[35, 35] ty #[.slice a ml.length c, .slice (some ⟨w4.heap.size, 0, none⟩) 1 1]).run Try.prog (w4.alloc (.cells #[.int .i64 x.From] 3)) = .ok v' w' ∧ Grown (w4.alloc (.cells #[.int .i64 x.From] 3)) (W.alloc (.cells #[.int .i64 lo, .int .i64 hi, .slice (some ⟨g2, o2, none⟩) hs.length c2] 32)).heap.size 3 1 (.slice a ml.length c) (ml ++ [x.From]).length ((ml ++ [x.From]).map (Value.int .i64)) v' w') := fun ty =>
          run_app1 (w4.alloc (.cells #[.int .i64 x.From] 3)) (W.alloc (.cells #[.int .i64 lo, .int .i64 hi, .slice (some ⟨g2, o2, none⟩) hs.length c2] 32)).heap.size (.slice a ml.length c) ml (rowBelow HO4.out ((Below.refl _ _).alloc (Nat.le_refl _) _)) w4.heap.size 1 x.From (new_cell _ _ _) (by omega) (Nat.le_trans SW4.out.2 (by simp)) ty
        have SW5 : Hid (Since (W.alloc (.cells #[.int .i64 lo, .int .i64 hi, .slice (some ⟨g2, o2, none⟩) hs.length c2] 32)).heap.size (W.alloc (.cells #[.int .i64 lo, .int .i64 hi, .slice (some ⟨g2, o2, none⟩) hs.length c2] 32)) (w4.alloc (.cells #[.int .i64 x.From] 3))) := SW4.out.step ((Below.refl _ _).alloc (Nat.le_refl _) _)
        obtain ⟨-, p0, p1⟩ := HXX.out _ SA1
        go_wp2_with (at_builtin; refine list_app (by rfl) (.tmp 26) (.tmp 29) 35 (by rfl) (.slice a ml.length c) (.slice (some ⟨w4.heap.size, 0, none⟩) 1 1) (by rfl) (by rfl) _ HA.out ?_; intro v5 w5 hg5; have HF : Hid (Own w5 (W.alloc (.cells #[.int .i64 lo, .int .i64 hi, .slice (some ⟨g2, o2, none⟩) hs.length c2] 32)).heap.size v5 m2 ∧ Since (W.alloc (.cells #[.int .i64 lo, .int .i64 hi, .slice (some ⟨g2, o2, none⟩) hs.length c2] 32)).heap.size (W.alloc (.cells #[.int .i64 lo, .int .i64 hi, .slice (some ⟨g2, o2, none⟩) hs.length c2] 32)) w5) := ⟨by rw [HE.out]; exact hg5.own, ⟨SW5.out.1.trans hg5.below, Nat.le_trans SW5.out.2 hg5.size⟩⟩; clear hg5)
        obtain ⟨a7, c7, rfl⟩ := rowShape HF.out.1
        go_roundw
        case rel => exact ⟨k + 1, a7, c7, by omega, by go_num, by rw [hm2], by rw [hm2]; exact HF.out⟩
        case measure => simp [intOf]; omega
      · have HE : Hid (m2 = ml) := by show _ = _; rw [HN, if_neg hp]
        have hq : decide (seqIn [] x.From < x.Seq) = false := decide_eq_false hp
        clear HN hp
        go_wp2
        have SA0 := Since.start (wr.alloc (.cells #[.int .i64 x.From, .int .i64 x.Seq] 41))
        refine wp_region_held_drew (S := (fun w' => (w'.cell? ⟨W.heap.size, 0, none⟩ = some (.int .i64 lo) ∧ w'.cell? ⟨W.heap.size, 1, none⟩ = some (.int .i64 hi) ∧ w'.cell? ⟨W.heap.size, 2, none⟩ = some (.slice (some ⟨g2, o2, none⟩) hs.length c2)) ∧ w'.cell? ⟨wr.heap.size, 0, none⟩ = some (.int .i64 x.From) ∧ w'.cell? ⟨wr.heap.size, 1, none⟩ = some (.int .i64 x.Seq))) (by kernel_rfl) ?_ (fun hHeld => ?_)
        · exact HXX.out _ SA0.drew
        refine handRead 0 (some 19) (.slice none 0 0) rfl rfl (by kernel_rfl) (by kernel_rfl) (by kernel_rfl) (fun _ _ _ h => h) (by kernel_rfl) (by assumption) ?_ ?_
        · intro w hSw
          (try dsimp only at hSw)
          go_simp
        simp only [Act.put, List.setIfInBounds_toArray, List.set_cons_zero, List.set_cons_succ]
        refine handRead 1 (some 20) (.pointer (some ⟨wr.heap.size, 0, none⟩)) rfl rfl (by kernel_rfl) (by kernel_rfl) (by kernel_rfl) (fun _ _ _ h => h) (by kernel_rfl) (by assumption) ?_ ?_
        · intro w hSw
          (try dsimp only at hSw)
          go_simp
        simp only [Act.put, List.setIfInBounds_toArray, List.set_cons_zero, List.set_cons_succ]
        refine handRead 2 (some 21) (.int .i64 x.From) rfl rfl (by kernel_rfl) (by kernel_rfl) (by kernel_rfl) (fun _ _ _ h => h) (by kernel_rfl) (by assumption) ?_ ?_
        · intro w hSw
          (try dsimp only at hSw)
          go_simp
        simp only [Act.put, List.setIfInBounds_toArray, List.set_cons_zero, List.set_cons_succ]
        refine handRead 4 (some 23) (.pointer (some ⟨wr.heap.size, 1, none⟩)) rfl rfl (by kernel_rfl) (by kernel_rfl) (by kernel_rfl) (fun _ _ _ h => h) (by kernel_rfl) (by assumption) ?_ ?_
        · intro w hSw
          (try dsimp only at hSw)
          go_simp
        simp only [Act.put, List.setIfInBounds_toArray, List.set_cons_zero, List.set_cons_succ]
        refine handRead 5 (some 24) (.int .i64 x.Seq) rfl rfl (by kernel_rfl) (by kernel_rfl) (by kernel_rfl) (fun _ _ _ h => h) (by kernel_rfl) (by assumption) ?_ ?_
        · intro w hSw
          (try dsimp only at hSw)
          go_simp
        simp only [Act.put, List.setIfInBounds_toArray, List.set_cons_zero, List.set_cons_succ]
        refine handCall 3 (some 22) 37 #[.slice none 0 0, .int .i64 x.From] (by kernel_rfl) rfl rfl (by kernel_rfl) (by simp [go_sem]) ((CQ1.out _ _ (SW.out.tran SA0.drew)).mono ?_)
        rintro e w4 ⟨rfl, hb4⟩
        have SA1 := SA0.drew.step hb4
        clear hHeld hb4
        refine ⟨_, rfl, (by exact HXX.out _ SA1), fun hHeld => ?_⟩
        simp only [Act.put, List.setIfInBounds_toArray, List.set_cons_zero, List.set_cons_succ]
        refine handRead 6 (some 25) (.bool false) rfl rfl (by kernel_rfl) (by kernel_rfl) (by kernel_rfl) (fun _ _ _ h => h) (by kernel_rfl) (by assumption) ?_ ?_
        · intro w hSw
          (try dsimp only at hSw)
          go_simp
        simp only [Act.put, List.setIfInBounds_toArray, List.set_cons_zero, List.set_cons_succ]
        refine wpAnyH_done (by kernel_rfl) ?_ _
        have SW4 : Hid (Since (W.alloc (.cells #[.int .i64 lo, .int .i64 hi, .slice (some ⟨g2, o2, none⟩) hs.length c2] 32)).heap.size (W.alloc (.cells #[.int .i64 lo, .int .i64 hi, .slice (some ⟨g2, o2, none⟩) hs.length c2] 32)) w4) := SW.out.tran SA1
        have HO4 : Hid (Own w4 (W.alloc (.cells #[.int .i64 lo, .int .i64 hi, .slice (some ⟨g2, o2, none⟩) hs.length c2] 32)).heap.size (.slice a ml.length c) ml) := rowBelow HO3.out SA1.1
        go_wp2
        go_roundw
        case rel => exact ⟨k + 1, a, c, by omega, by go_num, by rw [hm2, HE.out], by rw [hm2, HE.out]; exact ⟨HO4.out, SW4.out⟩⟩
        case measure => simp [intOf]; omega
    · have hlt' : ¬ (k : Int) < (hs.length : Int) := by omega
      have e : k = hs.length := by omega
      subst e
      rw [List.take_length] at HK
      obtain ⟨q0, q1, q2⟩ := HX.out wr HK.out.2
      obtain ⟨a6, ha6⟩ : ∃ a6, a6 = a := ⟨_, rfl⟩
      obtain ⟨c6, hc6⟩ : ∃ c6, c6 = c := ⟨_, rfl⟩
      rw [← ha6, ← hc6] at HK ⊢
      clear ha6 hc6
      have HZ1 : Hid (Own wr (W.alloc (.cells #[.int .i64 lo, .int .i64 hi, .slice (some ⟨g2, o2, none⟩) hs.length c2] 32)).heap.size (.slice a6 (fromsOf (newsHv hs [])).length c6) (fromsOf (newsHv hs [])) ∧ Since (W.alloc (.cells #[.int .i64 lo, .int .i64 hi, .slice (some ⟨g2, o2, none⟩) hs.length c2] 32)).heap.size (W.alloc (.cells #[.int .i64 lo, .int .i64 hi, .slice (some ⟨g2, o2, none⟩) hs.length c2] 32)) wr) := HK.out
      clear HK
      generalize wr = w6 at *
      go_wp2
      clear q0 q1 q2
      refine wp_loop_rounds 1 ?_
      rw [rounds_succ]
      go_wp2
      refine bodyPost_ret (results_tmp2 rfl _ _ _) rfl ?_
      exact ⟨_, _, rfl, rowMono HZ1.out.1 HWB.out, OwnHv.nil _ _, HB1.out.trans (HZ1.out.2.1.mono HWB.out)⟩

set_option maxRecDepth 100000 in
set_option maxHeartbeats 8000000 in
theorem l7Ask_nr (W : World) (lo hi : Int) (g1 o1 c1 : Nat) (l : List HvD) (h1 : LiesHv W (.slice (some ⟨g1, o1, none⟩) l.length c1) l) (h2 : LiesHv W (.slice none 0 0) []) (hl : l.length ≤ 50000) :
    Calls Try.prog 35 #[.slice (some ⟨g1, o1, none⟩) l.length c1, .agg #[.int .i64 lo, .int .i64 hi, .slice none 0 0]] W (AskPost2 W (fromsOf (newsHv [] l)) (beyondHv l ⟨lo, hi, []⟩)) := by
  have HB1 : Hid (Below W.heap.size W (W.alloc (.cells #[.int .i64 lo, .int .i64 hi, .slice none 0 0] 32))) := (Below.refl _ W).alloc (Nat.le_refl _) _
  have HX : Hid (∀ w', Since (W.alloc (.cells #[.int .i64 lo, .int .i64 hi, .slice none 0 0] 32)).heap.size (W.alloc (.cells #[.int .i64 lo, .int .i64 hi, .slice none 0 0] 32)) w' → w'.cell? ⟨W.heap.size, 0, none⟩ = some (.int .i64 lo) ∧ w'.cell? ⟨W.heap.size, 1, none⟩ = some (.int .i64 hi) ∧ w'.cell? ⟨W.heap.size, 2, none⟩ = some (.slice none 0 0)) := fun w' hs => smNew W _ _ _ w' hs.1
  have H1 : Hid (∀ w', Since (W.alloc (.cells #[.int .i64 lo, .int .i64 hi, .slice none 0 0] 32)).heap.size (W.alloc (.cells #[.int .i64 lo, .int .i64 hi, .slice none 0 0] 32)) w' → LiesHv w' (.slice (some ⟨g1, o1, none⟩) l.length c1) l) := fun w' hb => (h1.below HB1.out).below hb.1
  have H2 : Hid (∀ w', Since (W.alloc (.cells #[.int .i64 lo, .int .i64 hi, .slice none 0 0] 32)).heap.size (W.alloc (.cells #[.int .i64 lo, .int .i64 hi, .slice none 0 0] 32)) w' → LiesHv w' (.slice none 0 0) []) := fun w' hb => (h2.below HB1.out).below hb.1
  have SA0 : Hid (Since (W.alloc (.cells #[.int .i64 lo, .int .i64 hi, .slice none 0 0] 32)).heap.size (W.alloc (.cells #[.int .i64 lo, .int .i64 hi, .slice none 0 0] 32)) (W.alloc (.cells #[.int .i64 lo, .int .i64 hi, .slice none 0 0] 32))) := Since.start _
  have HWB : Hid (W.heap.size ≤ (W.alloc (.cells #[.int .i64 lo, .int .i64 hi, .slice none 0 0] 32)).heap.size) := HB1.out.size
  have CQ1 : Hid (∀ w' k, Since (W.alloc (.cells #[.int .i64 lo, .int .i64 hi, .slice none 0 0] 32)).heap.size (W.alloc (.cells #[.int .i64 lo, .int .i64 hi, .slice none 0 0] 32)) w' → Calls Try.prog 37 #[.slice (some ⟨g1, o1, none⟩) l.length c1, .int .i64 k] w' fun e W' => e = .returned (.int .i64 (seqIn l k)) ∧ Below w'.heap.size w' W') := fun w' k hb => l7Seq_any w' _ l k (H1.out w' hb).reads (by omega)
  have CQ2 : Hid (∀ w' k, Since (W.alloc (.cells #[.int .i64 lo, .int .i64 hi, .slice none 0 0] 32)).heap.size (W.alloc (.cells #[.int .i64 lo, .int .i64 hi, .slice none 0 0] 32)) w' → Calls Try.prog 37 #[.slice none 0 0, .int .i64 k] w' fun e W' => e = .returned (.int .i64 (seqIn [] k)) ∧ Below w'.heap.size w' W') := fun w' k hb => l7Seq_any w' _ [] k (H2.out w' hb).reads (by simp)
  have SN2 : Hid (∀ k (h : k < l.length), (beyondHv (l.take (k + 1)) ⟨lo, hi, []⟩) = if (lo ≤ l[k].From ∧ l[k].From ≤ hi) ∧ seqIn [] l[k].From < l[k].Seq then (beyondHv (l.take k) ⟨lo, hi, []⟩) ++ [l[k]] else (beyondHv (l.take k) ⟨lo, hi, []⟩)) := more_snoc l ⟨lo, hi, []⟩
  have LN2 : Hid (∀ k, (beyondHv (l.take k) ⟨lo, hi, []⟩).length ≤ 50000) := fun k => more_long l ⟨lo, hi, []⟩ k hl
  have HC1 : Hid (∀ wr, Since (W.alloc (.cells #[.int .i64 lo, .int .i64 hi, .slice none 0 0] 32)).heap.size (W.alloc (.cells #[.int .i64 lo, .int .i64 hi, .slice none 0 0] 32)) wr → ∀ j (hj : j < l.length), HvAt wr g1 (o1 + j * 2) l[j]) := fun wr hw j hj => by
    rcases H1.out wr hw with ⟨e, -⟩ | ⟨g, o, cap, e, -, -, hc⟩
    · cases e
    · simp only [Value.slice.injEq, Option.some.injEq, Addr.mk.injEq] at e
      obtain ⟨⟨rfl, rfl, -⟩, -, -⟩ := e
      exact hc j hj
  clear h1 h2
  go_enter Try.func35, Try.ntmps35
  go_wp2
  refine wp_loop_rounds 1 ?_
  rw [rounds_succ]
  have HZ1 : Hid (Own (W.alloc (.cells #[.int .i64 lo, .int .i64 hi, .slice none 0 0] 32)) (W.alloc (.cells #[.int .i64 lo, .int .i64 hi, .slice none 0 0] 32)).heap.size (.slice none (fromsOf (newsHv [] l)).length 0) (fromsOf (newsHv [] l)) ∧ Since (W.alloc (.cells #[.int .i64 lo, .int .i64 hi, .slice none 0 0] 32)).heap.size (W.alloc (.cells #[.int .i64 lo, .int .i64 hi, .slice none 0 0] 32)) (W.alloc (.cells #[.int .i64 lo, .int .i64 hi, .slice none 0 0] 32))) := ⟨Own.nil _ _, SA0.out⟩
  go_wp2
  go_loopw [7, 34] (fun u i wr => ∃ (k : Nat) (a : Option Addr) (c : Nat), k ≤ l.length ∧ i = .int .i64 k ∧ u = .slice a (beyondHv (l.take k) ⟨lo, hi, []⟩).length c ∧ Hid (OwnHv wr (W.alloc (.cells #[.int .i64 lo, .int .i64 hi, .slice none 0 0] 32)).heap.size (.slice a (beyondHv (l.take k) ⟨lo, hi, []⟩).length c) (beyondHv (l.take k) ⟨lo, hi, []⟩) ∧ Since (W.alloc (.cells #[.int .i64 lo, .int .i64 hi, .slice none 0 0] 32)).heap.size (W.alloc (.cells #[.int .i64 lo, .int .i64 hi, .slice none 0 0] 32)) wr ∧ Own wr (W.alloc (.cells #[.int .i64 lo, .int .i64 hi, .slice none 0 0] 32)).heap.size (.slice none (fromsOf (newsHv [] l)).length 0) (fromsOf (newsHv [] l)))) (fun _ i _ => l.length - (intOf i).toNat)
  case atStart => exact ⟨0, none, 0, Nat.zero_le _, rfl, rfl, OwnHv.nil _ _, HZ1.out.2, HZ1.out.1⟩
  case round =>
    obtain ⟨k, a, c, hk, rfl, rfl, HK⟩ := hrel
    by_cases hlt : k < l.length
    · have hlt' : (k : Int) < (l.length : Int) := by omega
      obtain ⟨m0, m1⟩ := HC1.out wr HK.out.2.1 k hlt
      obtain ⟨q0, q1, q2⟩ := HX.out wr HK.out.2.1
      have HN := SN2.out k hlt
      have hln := LN2.out k
      have HO2 : Hid (OwnHv wr (W.alloc (.cells #[.int .i64 lo, .int .i64 hi, .slice none 0 0] 32)).heap.size (.slice a (beyondHv (l.take k) ⟨lo, hi, []⟩).length c) (beyondHv (l.take k) ⟨lo, hi, []⟩)) := HK.out.1
      have SW0 : Hid (Since (W.alloc (.cells #[.int .i64 lo, .int .i64 hi, .slice none 0 0] 32)).heap.size (W.alloc (.cells #[.int .i64 lo, .int .i64 hi, .slice none 0 0] 32)) wr) := HK.out.2.1
      have HU2 : Hid (Own wr (W.alloc (.cells #[.int .i64 lo, .int .i64 hi, .slice none 0 0] 32)).heap.size (.slice none (fromsOf (newsHv [] l)).length 0) (fromsOf (newsHv [] l))) := HK.out.2.2
      clear HK
      generalize l[k] = x at *
      generalize hm1 : (beyondHv (l.take k) ⟨lo, hi, []⟩) = ml at *
      generalize hm2 : (beyondHv (l.take (k + 1)) ⟨lo, hi, []⟩) = m2 at *
      clear hm1
      have SW : Hid (Since (W.alloc (.cells #[.int .i64 lo, .int .i64 hi, .slice none 0 0] 32)).heap.size (W.alloc (.cells #[.int .i64 lo, .int .i64 hi, .slice none 0 0] 32)) (wr.alloc (.cells #[.int .i64 x.From, .int .i64 x.Seq] 41))) := SW0.out.step ((Below.refl _ wr).alloc (Nat.le_refl _) _)
      have HXX : Hid (∀ w', Since (wr.alloc (.cells #[.int .i64 x.From, .int .i64 x.Seq] 41)).heap.size (wr.alloc (.cells #[.int .i64 x.From, .int .i64 x.Seq] 41)) w' → (w'.cell? ⟨W.heap.size, 0, none⟩ = some (.int .i64 lo) ∧ w'.cell? ⟨W.heap.size, 1, none⟩ = some (.int .i64 hi) ∧ w'.cell? ⟨W.heap.size, 2, none⟩ = some (.slice none 0 0)) ∧ w'.cell? ⟨wr.heap.size, 0, none⟩ = some (.int .i64 x.From) ∧ w'.cell? ⟨wr.heap.size, 1, none⟩ = some (.int .i64 x.Seq)) := fun w' hs => ⟨HX.out w' (SW.out.tran hs), hvNew wr x w' hs⟩
      have HO3 : Hid (OwnHv (wr.alloc (.cells #[.int .i64 x.From, .int .i64 x.Seq] 41)) (W.alloc (.cells #[.int .i64 lo, .int .i64 hi, .slice none 0 0] 32)).heap.size (.slice a ml.length c) ml) := rowBelow HO2.out ((Below.refl _ wr).alloc (Nat.le_refl _) _)
      have HU3 : Hid (Own (wr.alloc (.cells #[.int .i64 x.From, .int .i64 x.Seq] 41)) (W.alloc (.cells #[.int .i64 lo, .int .i64 hi, .slice none 0 0] 32)).heap.size (.slice none (fromsOf (newsHv [] l)).length 0) (fromsOf (newsHv [] l))) := rowBelow HU2.out ((Below.refl _ wr).alloc (Nat.le_refl _) _)
      clear HO2 SW0 HU2 q0 q1 q2
      by_cases hin : lo ≤ x.From ∧ x.From ≤ hi
      · have HIN : Hid (decide (lo ≤ x.From ∧ x.From ≤ hi) = true) := decide_eq_true hin
        by_cases hp : seqIn [] x.From < x.Seq
        · have HE : Hid (m2 = ml ++ [x]) := by show _ = _; rw [HN, if_pos ⟨hin, hp⟩]
          have hq : decide (seqIn [] x.From < x.Seq) = true := decide_eq_true hp
          clear HN hp hin
          go_wp2
          have SA0 := Since.start (wr.alloc (.cells #[.int .i64 x.From, .int .i64 x.Seq] 41))
          refine wp_region_held_drew (S := (fun w' => (w'.cell? ⟨W.heap.size, 0, none⟩ = some (.int .i64 lo) ∧ w'.cell? ⟨W.heap.size, 1, none⟩ = some (.int .i64 hi) ∧ w'.cell? ⟨W.heap.size, 2, none⟩ = some (.slice none 0 0)) ∧ w'.cell? ⟨wr.heap.size, 0, none⟩ = some (.int .i64 x.From) ∧ w'.cell? ⟨wr.heap.size, 1, none⟩ = some (.int .i64 x.Seq))) (by kernel_rfl) ?_ (fun hHeld => ?_)
          · exact HXX.out _ SA0.drew
          refine handRead 0 (some 38) (.pointer (some ⟨wr.heap.size, 0, none⟩)) rfl rfl (by kernel_rfl) (by kernel_rfl) (by kernel_rfl) (fun _ _ _ h => h) (by kernel_rfl) (by assumption) ?_ ?_
          · intro w hSw
            (try dsimp only at hSw)
            go_simp
          simp only [Act.put, List.setIfInBounds_toArray, List.set_cons_zero, List.set_cons_succ]
          refine handRead 1 (some 39) (.int .i64 x.From) rfl rfl (by kernel_rfl) (by kernel_rfl) (by kernel_rfl) (fun _ _ _ h => h) (by kernel_rfl) (by assumption) ?_ ?_
          · intro w hSw
            (try dsimp only at hSw)
            go_simp
          simp only [Act.put, List.setIfInBounds_toArray, List.set_cons_zero, List.set_cons_succ]
          refine handRead 2 (some 40) (.pointer (some ⟨W.heap.size, 0, none⟩)) rfl rfl (by kernel_rfl) (by kernel_rfl) (by kernel_rfl) (fun _ _ _ h => h) (by kernel_rfl) (by assumption) ?_ ?_
          · intro w hSw
            (try dsimp only at hSw)
            go_simp
          simp only [Act.put, List.setIfInBounds_toArray, List.set_cons_zero, List.set_cons_succ]
          refine handRead 3 (some 41) (.int .i64 lo) rfl rfl (by kernel_rfl) (by kernel_rfl) (by kernel_rfl) (fun _ _ _ h => h) (by kernel_rfl) (by assumption) ?_ ?_
          · intro w hSw
            (try dsimp only at hSw)
            go_simp
          simp only [Act.put, List.setIfInBounds_toArray, List.set_cons_zero, List.set_cons_succ]
          refine handRead 4 (some 42) (.pointer (some ⟨W.heap.size, 1, none⟩)) rfl rfl (by kernel_rfl) (by kernel_rfl) (by kernel_rfl) (fun _ _ _ h => h) (by kernel_rfl) (by assumption) ?_ ?_
          · intro w hSw
            (try dsimp only at hSw)
            go_simp
          simp only [Act.put, List.setIfInBounds_toArray, List.set_cons_zero, List.set_cons_succ]
          refine handRead 5 (some 43) (.int .i64 hi) rfl rfl (by kernel_rfl) (by kernel_rfl) (by kernel_rfl) (fun _ _ _ h => h) (by kernel_rfl) (by assumption) ?_ ?_
          · intro w hSw
            (try dsimp only at hSw)
            go_simp
          simp only [Act.put, List.setIfInBounds_toArray, List.set_cons_zero, List.set_cons_succ]
          refine handCall 6 (some 44) 33 #[.int .i64 x.From, .int .i64 lo, .int .i64 hi] (by kernel_rfl) rfl rfl (by kernel_rfl) (by simp [go_sem]) ((l1In_any _ _ _ _).mono ?_)
          rintro e w4 ⟨rfl, rfl⟩
          rw [show decide (lo ≤ x.From ∧ x.From ≤ hi) = true from HIN.out]
          refine ⟨_, rfl, (by exact hHeld), fun hHeld => ?_⟩
          simp only [Act.put, List.setIfInBounds_toArray, List.set_cons_zero, List.set_cons_succ]
          refine handRead 7 (some 45) (.bool true) rfl rfl (by kernel_rfl) (by kernel_rfl) (by kernel_rfl) (fun _ _ _ h => h) (by kernel_rfl) (by assumption) ?_ ?_
          · intro w hSw
            (try dsimp only at hSw)
            go_simp
          simp only [Act.put, List.setIfInBounds_toArray, List.set_cons_zero, List.set_cons_succ]
          refine handRead 8 (some 46) (.pointer (some ⟨wr.heap.size, 1, none⟩)) rfl rfl (by kernel_rfl) (by kernel_rfl) (by kernel_rfl) (fun _ _ _ h => h) (by kernel_rfl) (by assumption) ?_ ?_
          · intro w hSw
            (try dsimp only at hSw)
            go_simp
          simp only [Act.put, List.setIfInBounds_toArray, List.set_cons_zero, List.set_cons_succ]
          refine handRead 9 (some 47) (.int .i64 x.Seq) rfl rfl (by kernel_rfl) (by kernel_rfl) (by kernel_rfl) (fun _ _ _ h => h) (by kernel_rfl) (by assumption) ?_ ?_
          · intro w hSw
            (try dsimp only at hSw)
            go_simp
          simp only [Act.put, List.setIfInBounds_toArray, List.set_cons_zero, List.set_cons_succ]
          refine handRead 10 (some 48) (.pointer (some ⟨W.heap.size, 2, none⟩)) rfl rfl (by kernel_rfl) (by kernel_rfl) (by kernel_rfl) (fun _ _ _ h => h) (by kernel_rfl) (by assumption) ?_ ?_
          · intro w hSw
            (try dsimp only at hSw)
            go_simp
          simp only [Act.put, List.setIfInBounds_toArray, List.set_cons_zero, List.set_cons_succ]
          refine handRead 11 (some 49) (.slice none 0 0) rfl rfl (by kernel_rfl) (by kernel_rfl) (by kernel_rfl) (fun _ _ _ h => h) (by kernel_rfl) (by assumption) ?_ ?_
          · intro w hSw
            (try dsimp only at hSw)
            go_simp
          simp only [Act.put, List.setIfInBounds_toArray, List.set_cons_zero, List.set_cons_succ]
          refine handRead 12 (some 50) (.pointer (some ⟨wr.heap.size, 0, none⟩)) rfl rfl (by kernel_rfl) (by kernel_rfl) (by kernel_rfl) (fun _ _ _ h => h) (by kernel_rfl) (by assumption) ?_ ?_
          · intro w hSw
            (try dsimp only at hSw)
            go_simp
          simp only [Act.put, List.setIfInBounds_toArray, List.set_cons_zero, List.set_cons_succ]
          refine handRead 13 (some 51) (.int .i64 x.From) rfl rfl (by kernel_rfl) (by kernel_rfl) (by kernel_rfl) (fun _ _ _ h => h) (by kernel_rfl) (by assumption) ?_ ?_
          · intro w hSw
            (try dsimp only at hSw)
            go_simp
          simp only [Act.put, List.setIfInBounds_toArray, List.set_cons_zero, List.set_cons_succ]
          refine handCall 14 (some 52) 37 #[.slice none 0 0, .int .i64 x.From] (by kernel_rfl) rfl rfl (by kernel_rfl) (by simp [go_sem]) ((CQ2.out _ _ (SW.out.tran SA0.drew)).mono ?_)
          rintro e w4 ⟨rfl, hb4⟩
          have SA1 := SA0.drew.step hb4
          clear hHeld hb4
          refine ⟨_, rfl, (by exact HXX.out _ SA1), fun hHeld => ?_⟩
          simp only [Act.put, List.setIfInBounds_toArray, List.set_cons_zero, List.set_cons_succ]
          refine handRead 15 (some 53) (.bool true) rfl rfl (by kernel_rfl) (by kernel_rfl) (by kernel_rfl) (fun _ _ _ h => h) (by kernel_rfl) (by assumption) ?_ ?_
          · intro w hSw
            (try dsimp only at hSw)
            go_simp
          simp only [Act.put, List.setIfInBounds_toArray, List.set_cons_zero, List.set_cons_succ]
          refine handRead 16 (some 54) (.bool true) rfl rfl (by kernel_rfl) (by kernel_rfl) (by kernel_rfl) (fun _ _ _ h => h) (by kernel_rfl) (by assumption) ?_ ?_
          · intro w hSw
            (try dsimp only at hSw)
            go_simp
          simp only [Act.put, List.setIfInBounds_toArray, List.set_cons_zero, List.set_cons_succ]
          refine wpAnyH_done (by kernel_rfl) ?_ _
          have HU4 : Hid (Own w4 (W.alloc (.cells #[.int .i64 lo, .int .i64 hi, .slice none 0 0] 32)).heap.size (.slice none (fromsOf (newsHv [] l)).length 0) (fromsOf (newsHv [] l))) := rowBelow HU3.out SA1.1
          have SW4 : Hid (Since (W.alloc (.cells #[.int .i64 lo, .int .i64 hi, .slice none 0 0] 32)).heap.size (W.alloc (.cells #[.int .i64 lo, .int .i64 hi, .slice none 0 0] 32)) w4) := SW.out.tran SA1
          have HO4 : Hid (OwnHv w4 (W.alloc (.cells #[.int .i64 lo, .int .i64 hi, .slice none 0 0] 32)).heap.size (.slice a ml.length c) ml) := rowBelow HO3.out SA1.1
          have HAP : Hid (∀ k, (Value.slice a ml.length c).ownBlock = some k → (Value.slice none (fromsOf (newsHv [] l)).length 0).ownBlock ≠ some k) := rowsApart HO4.out HU4.out (by decide)
          have HA : Hid (∀ ty, ∃ v' w', (Builtin.append_ #[23, 23] ty #[.slice a ml.length c, .slice (some ⟨w4.heap.size, 0, none⟩) 1 1]).run Try.prog (w4.alloc (.cells #[.int .i64 x.From, .int .i64 x.Seq] 41)) = .ok v' w' ∧ Grown (w4.alloc (.cells #[.int .i64 x.From, .int .i64 x.Seq] 41)) (W.alloc (.cells #[.int .i64 lo, .int .i64 hi, .slice none 0 0] 32)).heap.size 41 2 (.slice a ml.length c) (ml ++ [x]).length (cellsHv (ml ++ [x])) v' w') := fun ty =>
            run_appHv (w4.alloc (.cells #[.int .i64 x.From, .int .i64 x.Seq] 41)) (W.alloc (.cells #[.int .i64 lo, .int .i64 hi, .slice none 0 0] 32)).heap.size (.slice a ml.length c) ml (rowBelow HO4.out ((Below.refl _ _).alloc (Nat.le_refl _) _)) _ [x] (src_new w4 x 1) (by simp <;> omega) (Nat.le_trans SW4.out.2 (by simp)) ty
          have SW5 : Hid (Since (W.alloc (.cells #[.int .i64 lo, .int .i64 hi, .slice none 0 0] 32)).heap.size (W.alloc (.cells #[.int .i64 lo, .int .i64 hi, .slice none 0 0] 32)) (w4.alloc (.cells #[.int .i64 x.From, .int .i64 x.Seq] 41))) := SW4.out.step ((Below.refl _ _).alloc (Nat.le_refl _) _)
          obtain ⟨-, p0, p1⟩ := HXX.out _ SA1
          go_wp2_with (at_builtin; refine list_app (by rfl) (.tmp 55) (.tmp 57) 23 (by rfl) (.slice a ml.length c) (.slice (some ⟨w4.heap.size, 0, none⟩) 1 1) (by rfl) (by rfl) _ HA.out ?_; intro v5 w5 hg5; have HF : Hid (OwnHv w5 (W.alloc (.cells #[.int .i64 lo, .int .i64 hi, .slice none 0 0] 32)).heap.size v5 m2 ∧ Since (W.alloc (.cells #[.int .i64 lo, .int .i64 hi, .slice none 0 0] 32)).heap.size (W.alloc (.cells #[.int .i64 lo, .int .i64 hi, .slice none 0 0] 32)) w5 ∧ Own w5 (W.alloc (.cells #[.int .i64 lo, .int .i64 hi, .slice none 0 0] 32)).heap.size (.slice none (fromsOf (newsHv [] l)).length 0) (fromsOf (newsHv [] l))) := ⟨by rw [HE.out]; exact hg5.own, ⟨SW5.out.1.trans hg5.below, Nat.le_trans SW5.out.2 hg5.size⟩, rowGrow (rowBelow HU4.out ((Below.refl _ _).alloc (Nat.le_refl _) _)) hg5.grown (HAP.out)⟩; clear hg5)
          obtain ⟨a7, c7, rfl⟩ := rowShape HF.out.1
          go_roundw
          case rel => exact ⟨k + 1, a7, c7, by omega, by go_num, by rw [hm2], by rw [hm2]; exact HF.out⟩
          case measure => simp [intOf]; omega
        · have HE : Hid (m2 = ml) := by show _ = _; rw [HN, if_neg (fun h => hp h.2)]
          have hq : decide (seqIn [] x.From < x.Seq) = false := decide_eq_false hp
          clear HN hp hin
          go_wp2
          have SA0 := Since.start (wr.alloc (.cells #[.int .i64 x.From, .int .i64 x.Seq] 41))
          refine wp_region_held_drew (S := (fun w' => (w'.cell? ⟨W.heap.size, 0, none⟩ = some (.int .i64 lo) ∧ w'.cell? ⟨W.heap.size, 1, none⟩ = some (.int .i64 hi) ∧ w'.cell? ⟨W.heap.size, 2, none⟩ = some (.slice none 0 0)) ∧ w'.cell? ⟨wr.heap.size, 0, none⟩ = some (.int .i64 x.From) ∧ w'.cell? ⟨wr.heap.size, 1, none⟩ = some (.int .i64 x.Seq))) (by kernel_rfl) ?_ (fun hHeld => ?_)
          · exact HXX.out _ SA0.drew
          refine handRead 0 (some 38) (.pointer (some ⟨wr.heap.size, 0, none⟩)) rfl rfl (by kernel_rfl) (by kernel_rfl) (by kernel_rfl) (fun _ _ _ h => h) (by kernel_rfl) (by assumption) ?_ ?_
          · intro w hSw
            (try dsimp only at hSw)
            go_simp
          simp only [Act.put, List.setIfInBounds_toArray, List.set_cons_zero, List.set_cons_succ]
          refine handRead 1 (some 39) (.int .i64 x.From) rfl rfl (by kernel_rfl) (by kernel_rfl) (by kernel_rfl) (fun _ _ _ h => h) (by kernel_rfl) (by assumption) ?_ ?_
          · intro w hSw
            (try dsimp only at hSw)
            go_simp
          simp only [Act.put, List.setIfInBounds_toArray, List.set_cons_zero, List.set_cons_succ]
          refine handRead 2 (some 40) (.pointer (some ⟨W.heap.size, 0, none⟩)) rfl rfl (by kernel_rfl) (by kernel_rfl) (by kernel_rfl) (fun _ _ _ h => h) (by kernel_rfl) (by assumption) ?_ ?_
          · intro w hSw
            (try dsimp only at hSw)
            go_simp
          simp only [Act.put, List.setIfInBounds_toArray, List.set_cons_zero, List.set_cons_succ]
          refine handRead 3 (some 41) (.int .i64 lo) rfl rfl (by kernel_rfl) (by kernel_rfl) (by kernel_rfl) (fun _ _ _ h => h) (by kernel_rfl) (by assumption) ?_ ?_
          · intro w hSw
            (try dsimp only at hSw)
            go_simp
          simp only [Act.put, List.setIfInBounds_toArray, List.set_cons_zero, List.set_cons_succ]
          refine handRead 4 (some 42) (.pointer (some ⟨W.heap.size, 1, none⟩)) rfl rfl (by kernel_rfl) (by kernel_rfl) (by kernel_rfl) (fun _ _ _ h => h) (by kernel_rfl) (by assumption) ?_ ?_
          · intro w hSw
            (try dsimp only at hSw)
            go_simp
          simp only [Act.put, List.setIfInBounds_toArray, List.set_cons_zero, List.set_cons_succ]
          refine handRead 5 (some 43) (.int .i64 hi) rfl rfl (by kernel_rfl) (by kernel_rfl) (by kernel_rfl) (fun _ _ _ h => h) (by kernel_rfl) (by assumption) ?_ ?_
          · intro w hSw
            (try dsimp only at hSw)
            go_simp
          simp only [Act.put, List.setIfInBounds_toArray, List.set_cons_zero, List.set_cons_succ]
          refine handCall 6 (some 44) 33 #[.int .i64 x.From, .int .i64 lo, .int .i64 hi] (by kernel_rfl) rfl rfl (by kernel_rfl) (by simp [go_sem]) ((l1In_any _ _ _ _).mono ?_)
          rintro e w4 ⟨rfl, rfl⟩
          rw [show decide (lo ≤ x.From ∧ x.From ≤ hi) = true from HIN.out]
          refine ⟨_, rfl, (by exact hHeld), fun hHeld => ?_⟩
          simp only [Act.put, List.setIfInBounds_toArray, List.set_cons_zero, List.set_cons_succ]
          refine handRead 7 (some 45) (.bool true) rfl rfl (by kernel_rfl) (by kernel_rfl) (by kernel_rfl) (fun _ _ _ h => h) (by kernel_rfl) (by assumption) ?_ ?_
          · intro w hSw
            (try dsimp only at hSw)
            go_simp
          simp only [Act.put, List.setIfInBounds_toArray, List.set_cons_zero, List.set_cons_succ]
          refine handRead 8 (some 46) (.pointer (some ⟨wr.heap.size, 1, none⟩)) rfl rfl (by kernel_rfl) (by kernel_rfl) (by kernel_rfl) (fun _ _ _ h => h) (by kernel_rfl) (by assumption) ?_ ?_
          · intro w hSw
            (try dsimp only at hSw)
            go_simp
          simp only [Act.put, List.setIfInBounds_toArray, List.set_cons_zero, List.set_cons_succ]
          refine handRead 9 (some 47) (.int .i64 x.Seq) rfl rfl (by kernel_rfl) (by kernel_rfl) (by kernel_rfl) (fun _ _ _ h => h) (by kernel_rfl) (by assumption) ?_ ?_
          · intro w hSw
            (try dsimp only at hSw)
            go_simp
          simp only [Act.put, List.setIfInBounds_toArray, List.set_cons_zero, List.set_cons_succ]
          refine handRead 10 (some 48) (.pointer (some ⟨W.heap.size, 2, none⟩)) rfl rfl (by kernel_rfl) (by kernel_rfl) (by kernel_rfl) (fun _ _ _ h => h) (by kernel_rfl) (by assumption) ?_ ?_
          · intro w hSw
            (try dsimp only at hSw)
            go_simp
          simp only [Act.put, List.setIfInBounds_toArray, List.set_cons_zero, List.set_cons_succ]
          refine handRead 11 (some 49) (.slice none 0 0) rfl rfl (by kernel_rfl) (by kernel_rfl) (by kernel_rfl) (fun _ _ _ h => h) (by kernel_rfl) (by assumption) ?_ ?_
          · intro w hSw
            (try dsimp only at hSw)
            go_simp
          simp only [Act.put, List.setIfInBounds_toArray, List.set_cons_zero, List.set_cons_succ]
          refine handRead 12 (some 50) (.pointer (some ⟨wr.heap.size, 0, none⟩)) rfl rfl (by kernel_rfl) (by kernel_rfl) (by kernel_rfl) (fun _ _ _ h => h) (by kernel_rfl) (by assumption) ?_ ?_
          · intro w hSw
            (try dsimp only at hSw)
            go_simp
          simp only [Act.put, List.setIfInBounds_toArray, List.set_cons_zero, List.set_cons_succ]
          refine handRead 13 (some 51) (.int .i64 x.From) rfl rfl (by kernel_rfl) (by kernel_rfl) (by kernel_rfl) (fun _ _ _ h => h) (by kernel_rfl) (by assumption) ?_ ?_
          · intro w hSw
            (try dsimp only at hSw)
            go_simp
          simp only [Act.put, List.setIfInBounds_toArray, List.set_cons_zero, List.set_cons_succ]
          refine handCall 14 (some 52) 37 #[.slice none 0 0, .int .i64 x.From] (by kernel_rfl) rfl rfl (by kernel_rfl) (by simp [go_sem]) ((CQ2.out _ _ (SW.out.tran SA0.drew)).mono ?_)
          rintro e w4 ⟨rfl, hb4⟩
          have SA1 := SA0.drew.step hb4
          clear hHeld hb4
          refine ⟨_, rfl, (by exact HXX.out _ SA1), fun hHeld => ?_⟩
          simp only [Act.put, List.setIfInBounds_toArray, List.set_cons_zero, List.set_cons_succ]
          refine handRead 15 (some 53) (.bool false) rfl rfl (by kernel_rfl) (by kernel_rfl) (by kernel_rfl) (fun _ _ _ h => h) (by kernel_rfl) (by assumption) ?_ ?_
          · intro w hSw
            (try dsimp only at hSw)
            go_simp
          simp only [Act.put, List.setIfInBounds_toArray, List.set_cons_zero, List.set_cons_succ]
          refine handRead 16 (some 54) (.bool false) rfl rfl (by kernel_rfl) (by kernel_rfl) (by kernel_rfl) (fun _ _ _ h => h) (by kernel_rfl) (by assumption) ?_ ?_
          · intro w hSw
            (try dsimp only at hSw)
            go_simp
          simp only [Act.put, List.setIfInBounds_toArray, List.set_cons_zero, List.set_cons_succ]
          refine wpAnyH_done (by kernel_rfl) ?_ _
          have HU4 : Hid (Own w4 (W.alloc (.cells #[.int .i64 lo, .int .i64 hi, .slice none 0 0] 32)).heap.size (.slice none (fromsOf (newsHv [] l)).length 0) (fromsOf (newsHv [] l))) := rowBelow HU3.out SA1.1
          have SW4 : Hid (Since (W.alloc (.cells #[.int .i64 lo, .int .i64 hi, .slice none 0 0] 32)).heap.size (W.alloc (.cells #[.int .i64 lo, .int .i64 hi, .slice none 0 0] 32)) w4) := SW.out.tran SA1
          have HO4 : Hid (OwnHv w4 (W.alloc (.cells #[.int .i64 lo, .int .i64 hi, .slice none 0 0] 32)).heap.size (.slice a ml.length c) ml) := rowBelow HO3.out SA1.1
          go_wp2
          go_roundw
          case rel => exact ⟨k + 1, a, c, by omega, by go_num, by rw [hm2, HE.out], by rw [hm2, HE.out]; exact ⟨HO4.out, SW4.out, HU4.out⟩⟩
          case measure => simp [intOf]; omega
      · have HIN : Hid (decide (lo ≤ x.From ∧ x.From ≤ hi) = false) := decide_eq_false hin
        have HE : Hid (m2 = ml) := by show _ = _; rw [HN, if_neg (fun h => hin h.1)]
        clear HN hin
        go_wp2
        have SA0 := Since.start (wr.alloc (.cells #[.int .i64 x.From, .int .i64 x.Seq] 41))
        refine wp_region_held_drew (S := (fun w' => (w'.cell? ⟨W.heap.size, 0, none⟩ = some (.int .i64 lo) ∧ w'.cell? ⟨W.heap.size, 1, none⟩ = some (.int .i64 hi) ∧ w'.cell? ⟨W.heap.size, 2, none⟩ = some (.slice none 0 0)) ∧ w'.cell? ⟨wr.heap.size, 0, none⟩ = some (.int .i64 x.From) ∧ w'.cell? ⟨wr.heap.size, 1, none⟩ = some (.int .i64 x.Seq))) (by kernel_rfl) ?_ (fun hHeld => ?_)
        · exact HXX.out _ SA0.drew
        refine handRead 0 (some 38) (.pointer (some ⟨wr.heap.size, 0, none⟩)) rfl rfl (by kernel_rfl) (by kernel_rfl) (by kernel_rfl) (fun _ _ _ h => h) (by kernel_rfl) (by assumption) ?_ ?_
        · intro w hSw
          (try dsimp only at hSw)
          go_simp
        simp only [Act.put, List.setIfInBounds_toArray, List.set_cons_zero, List.set_cons_succ]
        refine handRead 1 (some 39) (.int .i64 x.From) rfl rfl (by kernel_rfl) (by kernel_rfl) (by kernel_rfl) (fun _ _ _ h => h) (by kernel_rfl) (by assumption) ?_ ?_
        · intro w hSw
          (try dsimp only at hSw)
          go_simp
        simp only [Act.put, List.setIfInBounds_toArray, List.set_cons_zero, List.set_cons_succ]
        refine handRead 2 (some 40) (.pointer (some ⟨W.heap.size, 0, none⟩)) rfl rfl (by kernel_rfl) (by kernel_rfl) (by kernel_rfl) (fun _ _ _ h => h) (by kernel_rfl) (by assumption) ?_ ?_
        · intro w hSw
          (try dsimp only at hSw)
          go_simp
        simp only [Act.put, List.setIfInBounds_toArray, List.set_cons_zero, List.set_cons_succ]
        refine handRead 3 (some 41) (.int .i64 lo) rfl rfl (by kernel_rfl) (by kernel_rfl) (by kernel_rfl) (fun _ _ _ h => h) (by kernel_rfl) (by assumption) ?_ ?_
        · intro w hSw
          (try dsimp only at hSw)
          go_simp
        simp only [Act.put, List.setIfInBounds_toArray, List.set_cons_zero, List.set_cons_succ]
        refine handRead 4 (some 42) (.pointer (some ⟨W.heap.size, 1, none⟩)) rfl rfl (by kernel_rfl) (by kernel_rfl) (by kernel_rfl) (fun _ _ _ h => h) (by kernel_rfl) (by assumption) ?_ ?_
        · intro w hSw
          (try dsimp only at hSw)
          go_simp
        simp only [Act.put, List.setIfInBounds_toArray, List.set_cons_zero, List.set_cons_succ]
        refine handRead 5 (some 43) (.int .i64 hi) rfl rfl (by kernel_rfl) (by kernel_rfl) (by kernel_rfl) (fun _ _ _ h => h) (by kernel_rfl) (by assumption) ?_ ?_
        · intro w hSw
          (try dsimp only at hSw)
          go_simp
        simp only [Act.put, List.setIfInBounds_toArray, List.set_cons_zero, List.set_cons_succ]
        refine handCall 6 (some 44) 33 #[.int .i64 x.From, .int .i64 lo, .int .i64 hi] (by kernel_rfl) rfl rfl (by kernel_rfl) (by simp [go_sem]) ((l1In_any _ _ _ _).mono ?_)
        rintro e w4 ⟨rfl, rfl⟩
        rw [show decide (lo ≤ x.From ∧ x.From ≤ hi) = false from HIN.out]
        refine ⟨_, rfl, (by exact hHeld), fun hHeld => ?_⟩
        simp only [Act.put, List.setIfInBounds_toArray, List.set_cons_zero, List.set_cons_succ]
        refine handRead 7 (some 45) (.bool false) rfl rfl (by kernel_rfl) (by kernel_rfl) (by kernel_rfl) (fun _ _ _ h => h) (by kernel_rfl) (by assumption) ?_ ?_
        · intro w hSw
          (try dsimp only at hSw)
          go_simp
        simp only [Act.put, List.setIfInBounds_toArray, List.set_cons_zero, List.set_cons_succ]
        refine handSkip 8 (some 46) rfl rfl (by kernel_rfl) (by kernel_rfl) (by kernel_rfl) (fun _ _ _ h => h) (by kernel_rfl) (by assumption) ?_
        simp only [Act.put, List.setIfInBounds_toArray, List.set_cons_zero, List.set_cons_succ]
        refine handSkip 9 (some 47) rfl rfl (by kernel_rfl) (by kernel_rfl) (by kernel_rfl) (fun _ _ _ h => h) (by kernel_rfl) (by assumption) ?_
        simp only [Act.put, List.setIfInBounds_toArray, List.set_cons_zero, List.set_cons_succ]
        refine handSkip 10 (some 48) rfl rfl (by kernel_rfl) (by kernel_rfl) (by kernel_rfl) (fun _ _ _ h => h) (by kernel_rfl) (by assumption) ?_
        simp only [Act.put, List.setIfInBounds_toArray, List.set_cons_zero, List.set_cons_succ]
        refine handSkip 11 (some 49) rfl rfl (by kernel_rfl) (by kernel_rfl) (by kernel_rfl) (fun _ _ _ h => h) (by kernel_rfl) (by assumption) ?_
        simp only [Act.put, List.setIfInBounds_toArray, List.set_cons_zero, List.set_cons_succ]
        refine handSkip 12 (some 50) rfl rfl (by kernel_rfl) (by kernel_rfl) (by kernel_rfl) (fun _ _ _ h => h) (by kernel_rfl) (by assumption) ?_
        simp only [Act.put, List.setIfInBounds_toArray, List.set_cons_zero, List.set_cons_succ]
        refine handSkip 13 (some 51) rfl rfl (by kernel_rfl) (by kernel_rfl) (by kernel_rfl) (fun _ _ _ h => h) (by kernel_rfl) (by assumption) ?_
        simp only [Act.put, List.setIfInBounds_toArray, List.set_cons_zero, List.set_cons_succ]
        refine handSkip 14 (some 52) rfl rfl (by kernel_rfl) (by kernel_rfl) (by kernel_rfl) (fun _ _ _ h => h) (by kernel_rfl) (by assumption) ?_
        simp only [Act.put, List.setIfInBounds_toArray, List.set_cons_zero, List.set_cons_succ]
        refine handSkip 15 (some 53) rfl rfl (by kernel_rfl) (by kernel_rfl) (by kernel_rfl) (fun _ _ _ h => h) (by kernel_rfl) (by assumption) ?_
        simp only [Act.put, List.setIfInBounds_toArray, List.set_cons_zero, List.set_cons_succ]
        refine handRead 16 (some 54) (.bool false) rfl rfl (by kernel_rfl) (by kernel_rfl) (by kernel_rfl) (fun _ _ _ h => h) (by kernel_rfl) (by assumption) ?_ ?_
        · intro w hSw
          (try dsimp only at hSw)
          go_simp
        simp only [Act.put, List.setIfInBounds_toArray, List.set_cons_zero, List.set_cons_succ]
        refine wpAnyH_done (by kernel_rfl) ?_ _
        have HU4 : Hid (Own (wr.alloc (.cells #[.int .i64 x.From, .int .i64 x.Seq] 41)).drew (W.alloc (.cells #[.int .i64 lo, .int .i64 hi, .slice none 0 0] 32)).heap.size (.slice none (fromsOf (newsHv [] l)).length 0) (fromsOf (newsHv [] l))) := rowSame HU3.out fun _ _ => rfl
        have SW4 : Hid (Since (W.alloc (.cells #[.int .i64 lo, .int .i64 hi, .slice none 0 0] 32)).heap.size (W.alloc (.cells #[.int .i64 lo, .int .i64 hi, .slice none 0 0] 32)) (wr.alloc (.cells #[.int .i64 x.From, .int .i64 x.Seq] 41)).drew) := SW.out.drew
        have HO4 : Hid (OwnHv (wr.alloc (.cells #[.int .i64 x.From, .int .i64 x.Seq] 41)).drew (W.alloc (.cells #[.int .i64 lo, .int .i64 hi, .slice none 0 0] 32)).heap.size (.slice a ml.length c) ml) := rowSame HO3.out fun _ _ => rfl
        go_wp2
        go_roundw
        case rel => exact ⟨k + 1, a, c, by omega, by go_num, by rw [hm2, HE.out], by rw [hm2, HE.out]; exact ⟨HO4.out, SW4.out, HU4.out⟩⟩
        case measure => simp [intOf]; omega
    · have hlt' : ¬ (k : Int) < (l.length : Int) := by omega
      have e : k = l.length := by omega
      subst e
      rw [List.take_length] at HK
      have HFIN : Hid (Own wr W.heap.size (.slice none (fromsOf (newsHv [] l)).length 0) (fromsOf (newsHv [] l)) ∧ OwnHv wr W.heap.size (.slice a (beyondHv l ⟨lo, hi, []⟩).length c) (beyondHv l ⟨lo, hi, []⟩) ∧ Below W.heap.size W wr) := ⟨rowMono HK.out.2.2 HWB.out, rowMono HK.out.1 HWB.out, HB1.out.trans (HK.out.2.1.1.mono HWB.out)⟩
      clear HK
      go_wp2
      refine bodyPost_ret (results_tmp2 rfl _ _ _) rfl ?_
      exact ⟨_, _, rfl, HFIN.out⟩

set_option maxRecDepth 100000 in
set_option maxHeartbeats 8000000 in
theorem l7Ask_rr (W : World) (lo hi : Int) (g2 o2 c2 : Nat) (hs : List HvD) (g1 o1 c1 : Nat) (l : List HvD) (h1 : LiesHv W (.slice (some ⟨g1, o1, none⟩) l.length c1) l) (h2 : LiesHv W (.slice (some ⟨g2, o2, none⟩) hs.length c2) hs) (hl : l.length ≤ 50000) (hls : hs.length ≤ 50000) :
    Calls Try.prog 35 #[.slice (some ⟨g1, o1, none⟩) l.length c1, .agg #[.int .i64 lo, .int .i64 hi, .slice (some ⟨g2, o2, none⟩) hs.length c2]] W (AskPost2 W (fromsOf (newsHv hs l)) (beyondHv l ⟨lo, hi, hs⟩)) := by
  have HB1 : Hid (Below W.heap.size W (W.alloc (.cells #[.int .i64 lo, .int .i64 hi, .slice (some ⟨g2, o2, none⟩) hs.length c2] 32))) := (Below.refl _ W).alloc (Nat.le_refl _) _
  have HX : Hid (∀ w', Since (W.alloc (.cells #[.int .i64 lo, .int .i64 hi, .slice (some ⟨g2, o2, none⟩) hs.length c2] 32)).heap.size (W.alloc (.cells #[.int .i64 lo, .int .i64 hi, .slice (some ⟨g2, o2, none⟩) hs.length c2] 32)) w' → w'.cell? ⟨W.heap.size, 0, none⟩ = some (.int .i64 lo) ∧ w'.cell? ⟨W.heap.size, 1, none⟩ = some (.int .i64 hi) ∧ w'.cell? ⟨W.heap.size, 2, none⟩ = some (.slice (some ⟨g2, o2, none⟩) hs.length c2)) := fun w' hs => smNew W _ _ _ w' hs.1
  have H1 : Hid (∀ w', Since (W.alloc (.cells #[.int .i64 lo, .int .i64 hi, .slice (some ⟨g2, o2, none⟩) hs.length c2] 32)).heap.size (W.alloc (.cells #[.int .i64 lo, .int .i64 hi, .slice (some ⟨g2, o2, none⟩) hs.length c2] 32)) w' → LiesHv w' (.slice (some ⟨g1, o1, none⟩) l.length c1) l) := fun w' hb => (h1.below HB1.out).below hb.1
  have H2 : Hid (∀ w', Since (W.alloc (.cells #[.int .i64 lo, .int .i64 hi, .slice (some ⟨g2, o2, none⟩) hs.length c2] 32)).heap.size (W.alloc (.cells #[.int .i64 lo, .int .i64 hi, .slice (some ⟨g2, o2, none⟩) hs.length c2] 32)) w' → LiesHv w' (.slice (some ⟨g2, o2, none⟩) hs.length c2) hs) := fun w' hb => (h2.below HB1.out).below hb.1
  have SA0 : Hid (Since (W.alloc (.cells #[.int .i64 lo, .int .i64 hi, .slice (some ⟨g2, o2, none⟩) hs.length c2] 32)).heap.size (W.alloc (.cells #[.int .i64 lo, .int .i64 hi, .slice (some ⟨g2, o2, none⟩) hs.length c2] 32)) (W.alloc (.cells #[.int .i64 lo, .int .i64 hi, .slice (some ⟨g2, o2, none⟩) hs.length c2] 32))) := Since.start _
  have HWB : Hid (W.heap.size ≤ (W.alloc (.cells #[.int .i64 lo, .int .i64 hi, .slice (some ⟨g2, o2, none⟩) hs.length c2] 32)).heap.size) := HB1.out.size
  have CQ1 : Hid (∀ w' k, Since (W.alloc (.cells #[.int .i64 lo, .int .i64 hi, .slice (some ⟨g2, o2, none⟩) hs.length c2] 32)).heap.size (W.alloc (.cells #[.int .i64 lo, .int .i64 hi, .slice (some ⟨g2, o2, none⟩) hs.length c2] 32)) w' → Calls Try.prog 37 #[.slice (some ⟨g1, o1, none⟩) l.length c1, .int .i64 k] w' fun e W' => e = .returned (.int .i64 (seqIn l k)) ∧ Below w'.heap.size w' W') := fun w' k hb => l7Seq_any w' _ l k (H1.out w' hb).reads (by omega)
  have CQ2 : Hid (∀ w' k, Since (W.alloc (.cells #[.int .i64 lo, .int .i64 hi, .slice (some ⟨g2, o2, none⟩) hs.length c2] 32)).heap.size (W.alloc (.cells #[.int .i64 lo, .int .i64 hi, .slice (some ⟨g2, o2, none⟩) hs.length c2] 32)) w' → Calls Try.prog 37 #[.slice (some ⟨g2, o2, none⟩) hs.length c2, .int .i64 k] w' fun e W' => e = .returned (.int .i64 (seqIn hs k)) ∧ Below w'.heap.size w' W') := fun w' k hb => l7Seq_any w' _ hs k (H2.out w' hb).reads (by omega)
  have SN1 : Hid (∀ k (h : k < hs.length), (fromsOf (newsHv (hs.take (k + 1)) l)) = if seqIn l hs[k].From < hs[k].Seq then (fromsOf (newsHv (hs.take k) l)) ++ [hs[k].From] else (fromsOf (newsHv (hs.take k) l))) := asks_snoc l hs
  have LN1 : Hid (∀ k, (fromsOf (newsHv (hs.take k) l)).length ≤ 50000) := fun k => asks_long l hs k hls
  have HC2 : Hid (∀ wr, Since (W.alloc (.cells #[.int .i64 lo, .int .i64 hi, .slice (some ⟨g2, o2, none⟩) hs.length c2] 32)).heap.size (W.alloc (.cells #[.int .i64 lo, .int .i64 hi, .slice (some ⟨g2, o2, none⟩) hs.length c2] 32)) wr → ∀ j (hj : j < hs.length), HvAt wr g2 (o2 + j * 2) hs[j]) := fun wr hw j hj => by
    rcases H2.out wr hw with ⟨e, -⟩ | ⟨g, o, cap, e, -, -, hc⟩
    · cases e
    · simp only [Value.slice.injEq, Option.some.injEq, Addr.mk.injEq] at e
      obtain ⟨⟨rfl, rfl, -⟩, -, -⟩ := e
      exact hc j hj
  have SN2 : Hid (∀ k (h : k < l.length), (beyondHv (l.take (k + 1)) ⟨lo, hi, hs⟩) = if (lo ≤ l[k].From ∧ l[k].From ≤ hi) ∧ seqIn hs l[k].From < l[k].Seq then (beyondHv (l.take k) ⟨lo, hi, hs⟩) ++ [l[k]] else (beyondHv (l.take k) ⟨lo, hi, hs⟩)) := more_snoc l ⟨lo, hi, hs⟩
  have LN2 : Hid (∀ k, (beyondHv (l.take k) ⟨lo, hi, hs⟩).length ≤ 50000) := fun k => more_long l ⟨lo, hi, hs⟩ k hl
  have HC1 : Hid (∀ wr, Since (W.alloc (.cells #[.int .i64 lo, .int .i64 hi, .slice (some ⟨g2, o2, none⟩) hs.length c2] 32)).heap.size (W.alloc (.cells #[.int .i64 lo, .int .i64 hi, .slice (some ⟨g2, o2, none⟩) hs.length c2] 32)) wr → ∀ j (hj : j < l.length), HvAt wr g1 (o1 + j * 2) l[j]) := fun wr hw j hj => by
    rcases H1.out wr hw with ⟨e, -⟩ | ⟨g, o, cap, e, -, -, hc⟩
    · cases e
    · simp only [Value.slice.injEq, Option.some.injEq, Addr.mk.injEq] at e
      obtain ⟨⟨rfl, rfl, -⟩, -, -⟩ := e
      exact hc j hj
  clear h1 h2
  go_enter Try.func35, Try.ntmps35
  go_wp2
  go_loopw [6, 15] (fun u i wr => ∃ (k : Nat) (a : Option Addr) (c : Nat), k ≤ hs.length ∧ i = .int .i64 k ∧ u = .slice a (fromsOf (newsHv (hs.take k) l)).length c ∧ Hid (Own wr (W.alloc (.cells #[.int .i64 lo, .int .i64 hi, .slice (some ⟨g2, o2, none⟩) hs.length c2] 32)).heap.size (.slice a (fromsOf (newsHv (hs.take k) l)).length c) (fromsOf (newsHv (hs.take k) l)) ∧ Since (W.alloc (.cells #[.int .i64 lo, .int .i64 hi, .slice (some ⟨g2, o2, none⟩) hs.length c2] 32)).heap.size (W.alloc (.cells #[.int .i64 lo, .int .i64 hi, .slice (some ⟨g2, o2, none⟩) hs.length c2] 32)) wr)) (fun _ i _ => hs.length - (intOf i).toNat)
  case atStart => exact ⟨0, none, 0, Nat.zero_le _, rfl, rfl, Own.nil _ _, SA0.out⟩
  case round =>
    obtain ⟨k, a, c, hk, rfl, rfl, HK⟩ := hrel
    by_cases hlt : k < hs.length
    · have hlt' : (k : Int) < (hs.length : Int) := by omega
      obtain ⟨m0, m1⟩ := HC2.out wr HK.out.2 k hlt
      obtain ⟨q0, q1, q2⟩ := HX.out wr HK.out.2
      have HN := SN1.out k hlt
      have hln := LN1.out k
      have HO2 : Hid (Own wr (W.alloc (.cells #[.int .i64 lo, .int .i64 hi, .slice (some ⟨g2, o2, none⟩) hs.length c2] 32)).heap.size (.slice a (fromsOf (newsHv (hs.take k) l)).length c) (fromsOf (newsHv (hs.take k) l))) := HK.out.1
      have SW0 : Hid (Since (W.alloc (.cells #[.int .i64 lo, .int .i64 hi, .slice (some ⟨g2, o2, none⟩) hs.length c2] 32)).heap.size (W.alloc (.cells #[.int .i64 lo, .int .i64 hi, .slice (some ⟨g2, o2, none⟩) hs.length c2] 32)) wr) := HK.out.2
      clear HK
      generalize hs[k] = x at *
      generalize hm1 : (fromsOf (newsHv (hs.take k) l)) = ml at *
      generalize hm2 : (fromsOf (newsHv (hs.take (k + 1)) l)) = m2 at *
      clear hm1
      have SW : Hid (Since (W.alloc (.cells #[.int .i64 lo, .int .i64 hi, .slice (some ⟨g2, o2, none⟩) hs.length c2] 32)).heap.size (W.alloc (.cells #[.int .i64 lo, .int .i64 hi, .slice (some ⟨g2, o2, none⟩) hs.length c2] 32)) (wr.alloc (.cells #[.int .i64 x.From, .int .i64 x.Seq] 41))) := SW0.out.step ((Below.refl _ wr).alloc (Nat.le_refl _) _)
      have HXX : Hid (∀ w', Since (wr.alloc (.cells #[.int .i64 x.From, .int .i64 x.Seq] 41)).heap.size (wr.alloc (.cells #[.int .i64 x.From, .int .i64 x.Seq] 41)) w' → (w'.cell? ⟨W.heap.size, 0, none⟩ = some (.int .i64 lo) ∧ w'.cell? ⟨W.heap.size, 1, none⟩ = some (.int .i64 hi) ∧ w'.cell? ⟨W.heap.size, 2, none⟩ = some (.slice (some ⟨g2, o2, none⟩) hs.length c2)) ∧ w'.cell? ⟨wr.heap.size, 0, none⟩ = some (.int .i64 x.From) ∧ w'.cell? ⟨wr.heap.size, 1, none⟩ = some (.int .i64 x.Seq)) := fun w' hs => ⟨HX.out w' (SW.out.tran hs), hvNew wr x w' hs⟩
      have HO3 : Hid (Own (wr.alloc (.cells #[.int .i64 x.From, .int .i64 x.Seq] 41)) (W.alloc (.cells #[.int .i64 lo, .int .i64 hi, .slice (some ⟨g2, o2, none⟩) hs.length c2] 32)).heap.size (.slice a ml.length c) ml) := rowBelow HO2.out ((Below.refl _ wr).alloc (Nat.le_refl _) _)
      clear HO2 SW0 q0 q1 q2
      by_cases hp : seqIn l x.From < x.Seq
      · have HE : Hid (m2 = ml ++ [x.From]) := by show _ = _; rw [HN, if_pos hp]
        have hq : decide (seqIn l x.From < x.Seq) = true := decide_eq_true hp
        clear HN hp
        go_wp2
        have SA0 := Since.start (wr.alloc (.cells #[.int .i64 x.From, .int .i64 x.Seq] 41))
        refine wp_region_held_drew (S := (fun w' => (w'.cell? ⟨W.heap.size, 0, none⟩ = some (.int .i64 lo) ∧ w'.cell? ⟨W.heap.size, 1, none⟩ = some (.int .i64 hi) ∧ w'.cell? ⟨W.heap.size, 2, none⟩ = some (.slice (some ⟨g2, o2, none⟩) hs.length c2)) ∧ w'.cell? ⟨wr.heap.size, 0, none⟩ = some (.int .i64 x.From) ∧ w'.cell? ⟨wr.heap.size, 1, none⟩ = some (.int .i64 x.Seq))) (by kernel_rfl) ?_ (fun hHeld => ?_)
        · exact HXX.out _ SA0.drew
        refine handRead 0 (some 19) (.slice (some ⟨g1, o1, none⟩) l.length c1) rfl rfl (by kernel_rfl) (by kernel_rfl) (by kernel_rfl) (fun _ _ _ h => h) (by kernel_rfl) (by assumption) ?_ ?_
        · intro w hSw
          (try dsimp only at hSw)
          go_simp
        simp only [Act.put, List.setIfInBounds_toArray, List.set_cons_zero, List.set_cons_succ]
        refine handRead 1 (some 20) (.pointer (some ⟨wr.heap.size, 0, none⟩)) rfl rfl (by kernel_rfl) (by kernel_rfl) (by kernel_rfl) (fun _ _ _ h => h) (by kernel_rfl) (by assumption) ?_ ?_
        · intro w hSw
          (try dsimp only at hSw)
          go_simp
        simp only [Act.put, List.setIfInBounds_toArray, List.set_cons_zero, List.set_cons_succ]
        refine handRead 2 (some 21) (.int .i64 x.From) rfl rfl (by kernel_rfl) (by kernel_rfl) (by kernel_rfl) (fun _ _ _ h => h) (by kernel_rfl) (by assumption) ?_ ?_
        · intro w hSw
          (try dsimp only at hSw)
          go_simp
        simp only [Act.put, List.setIfInBounds_toArray, List.set_cons_zero, List.set_cons_succ]
        refine handRead 4 (some 23) (.pointer (some ⟨wr.heap.size, 1, none⟩)) rfl rfl (by kernel_rfl) (by kernel_rfl) (by kernel_rfl) (fun _ _ _ h => h) (by kernel_rfl) (by assumption) ?_ ?_
        · intro w hSw
          (try dsimp only at hSw)
          go_simp
        simp only [Act.put, List.setIfInBounds_toArray, List.set_cons_zero, List.set_cons_succ]
        refine handRead 5 (some 24) (.int .i64 x.Seq) rfl rfl (by kernel_rfl) (by kernel_rfl) (by kernel_rfl) (fun _ _ _ h => h) (by kernel_rfl) (by assumption) ?_ ?_
        · intro w hSw
          (try dsimp only at hSw)
          go_simp
        simp only [Act.put, List.setIfInBounds_toArray, List.set_cons_zero, List.set_cons_succ]
        refine handCall 3 (some 22) 37 #[.slice (some ⟨g1, o1, none⟩) l.length c1, .int .i64 x.From] (by kernel_rfl) rfl rfl (by kernel_rfl) (by simp [go_sem]) ((CQ1.out _ _ (SW.out.tran SA0.drew)).mono ?_)
        rintro e w4 ⟨rfl, hb4⟩
        have SA1 := SA0.drew.step hb4
        clear hHeld hb4
        refine ⟨_, rfl, (by exact HXX.out _ SA1), fun hHeld => ?_⟩
        simp only [Act.put, List.setIfInBounds_toArray, List.set_cons_zero, List.set_cons_succ]
        refine handRead 6 (some 25) (.bool true) rfl rfl (by kernel_rfl) (by kernel_rfl) (by kernel_rfl) (fun _ _ _ h => h) (by kernel_rfl) (by assumption) ?_ ?_
        · intro w hSw
          (try dsimp only at hSw)
          go_simp
        simp only [Act.put, List.setIfInBounds_toArray, List.set_cons_zero, List.set_cons_succ]
        refine wpAnyH_done (by kernel_rfl) ?_ _
        have SW4 : Hid (Since (W.alloc (.cells #[.int .i64 lo, .int .i64 hi, .slice (some ⟨g2, o2, none⟩) hs.length c2] 32)).heap.size (W.alloc (.cells #[.int .i64 lo, .int .i64 hi, .slice (some ⟨g2, o2, none⟩) hs.length c2] 32)) w4) := SW.out.tran SA1
        have HO4 : Hid (Own w4 (W.alloc (.cells #[.int .i64 lo, .int .i64 hi, .slice (some ⟨g2, o2, none⟩) hs.length c2] 32)).heap.size (.slice a ml.length c) ml) := rowBelow HO3.out SA1.1
        have HA : Hid (∀ ty, ∃ v' w', (Builtin.append_ #[35, 35] ty #[.slice a ml.length c, .slice (some ⟨w4.heap.size, 0, none⟩) 1 1]).run Try.prog (w4.alloc (.cells #[.int .i64 x.From] 3)) = .ok v' w' ∧ Grown (w4.alloc (.cells #[.int .i64 x.From] 3)) (W.alloc (.cells #[.int .i64 lo, .int .i64 hi, .slice (some ⟨g2, o2, none⟩) hs.length c2] 32)).heap.size 3 1 (.slice a ml.length c) (ml ++ [x.From]).length ((ml ++ [x.From]).map (Value.int .i64)) v' w') := fun ty =>
          run_app1 (w4.alloc (.cells #[.int .i64 x.From] 3)) (W.alloc (.cells #[.int .i64 lo, .int .i64 hi, .slice (some ⟨g2, o2, none⟩) hs.length c2] 32)).heap.size (.slice a ml.length c) ml (rowBelow HO4.out ((Below.refl _ _).alloc (Nat.le_refl _) _)) w4.heap.size 1 x.From (new_cell _ _ _) (by omega) (Nat.le_trans SW4.out.2 (by simp)) ty
        have SW5 : Hid (Since (W.alloc (.cells #[.int .i64 lo, .int .i64 hi, .slice (some ⟨g2, o2, none⟩) hs.length c2] 32)).heap.size (W.alloc (.cells #[.int .i64 lo, .int .i64 hi, .slice (some ⟨g2, o2, none⟩) hs.length c2] 32)) (w4.alloc (.cells #[.int .i64 x.From] 3))) := SW4.out.step ((Below.refl _ _).alloc (Nat.le_refl _) _)
        obtain ⟨-, p0, p1⟩ := HXX.out _ SA1
        go_wp2_with (at_builtin; refine list_app (by rfl) (.tmp 26) (.tmp 29) 35 (by rfl) (.slice a ml.length c) (.slice (some ⟨w4.heap.size, 0, none⟩) 1 1) (by rfl) (by rfl) _ HA.out ?_; intro v5 w5 hg5; have HF : Hid (Own w5 (W.alloc (.cells #[.int .i64 lo, .int .i64 hi, .slice (some ⟨g2, o2, none⟩) hs.length c2] 32)).heap.size v5 m2 ∧ Since (W.alloc (.cells #[.int .i64 lo, .int .i64 hi, .slice (some ⟨g2, o2, none⟩) hs.length c2] 32)).heap.size (W.alloc (.cells #[.int .i64 lo, .int .i64 hi, .slice (some ⟨g2, o2, none⟩) hs.length c2] 32)) w5) := ⟨by rw [HE.out]; exact hg5.own, ⟨SW5.out.1.trans hg5.below, Nat.le_trans SW5.out.2 hg5.size⟩⟩; clear hg5)
        obtain ⟨a7, c7, rfl⟩ := rowShape HF.out.1
        go_roundw
        case rel => exact ⟨k + 1, a7, c7, by omega, by go_num, by rw [hm2], by rw [hm2]; exact HF.out⟩
        case measure => simp [intOf]; omega
      · have HE : Hid (m2 = ml) := by show _ = _; rw [HN, if_neg hp]
        have hq : decide (seqIn l x.From < x.Seq) = false := decide_eq_false hp
        clear HN hp
        go_wp2
        have SA0 := Since.start (wr.alloc (.cells #[.int .i64 x.From, .int .i64 x.Seq] 41))
        refine wp_region_held_drew (S := (fun w' => (w'.cell? ⟨W.heap.size, 0, none⟩ = some (.int .i64 lo) ∧ w'.cell? ⟨W.heap.size, 1, none⟩ = some (.int .i64 hi) ∧ w'.cell? ⟨W.heap.size, 2, none⟩ = some (.slice (some ⟨g2, o2, none⟩) hs.length c2)) ∧ w'.cell? ⟨wr.heap.size, 0, none⟩ = some (.int .i64 x.From) ∧ w'.cell? ⟨wr.heap.size, 1, none⟩ = some (.int .i64 x.Seq))) (by kernel_rfl) ?_ (fun hHeld => ?_)
        · exact HXX.out _ SA0.drew
        refine handRead 0 (some 19) (.slice (some ⟨g1, o1, none⟩) l.length c1) rfl rfl (by kernel_rfl) (by kernel_rfl) (by kernel_rfl) (fun _ _ _ h => h) (by kernel_rfl) (by assumption) ?_ ?_
        · intro w hSw
          (try dsimp only at hSw)
          go_simp
        simp only [Act.put, List.setIfInBounds_toArray, List.set_cons_zero, List.set_cons_succ]
        refine handRead 1 (some 20) (.pointer (some ⟨wr.heap.size, 0, none⟩)) rfl rfl (by kernel_rfl) (by kernel_rfl) (by kernel_rfl) (fun _ _ _ h => h) (by kernel_rfl) (by assumption) ?_ ?_
        · intro w hSw
          (try dsimp only at hSw)
          go_simp
        simp only [Act.put, List.setIfInBounds_toArray, List.set_cons_zero, List.set_cons_succ]
        refine handRead 2 (some 21) (.int .i64 x.From) rfl rfl (by kernel_rfl) (by kernel_rfl) (by kernel_rfl) (fun _ _ _ h => h) (by kernel_rfl) (by assumption) ?_ ?_
        · intro w hSw
          (try dsimp only at hSw)
          go_simp
        simp only [Act.put, List.setIfInBounds_toArray, List.set_cons_zero, List.set_cons_succ]
        refine handRead 4 (some 23) (.pointer (some ⟨wr.heap.size, 1, none⟩)) rfl rfl (by kernel_rfl) (by kernel_rfl) (by kernel_rfl) (fun _ _ _ h => h) (by kernel_rfl) (by assumption) ?_ ?_
        · intro w hSw
          (try dsimp only at hSw)
          go_simp
        simp only [Act.put, List.setIfInBounds_toArray, List.set_cons_zero, List.set_cons_succ]
        refine handRead 5 (some 24) (.int .i64 x.Seq) rfl rfl (by kernel_rfl) (by kernel_rfl) (by kernel_rfl) (fun _ _ _ h => h) (by kernel_rfl) (by assumption) ?_ ?_
        · intro w hSw
          (try dsimp only at hSw)
          go_simp
        simp only [Act.put, List.setIfInBounds_toArray, List.set_cons_zero, List.set_cons_succ]
        refine handCall 3 (some 22) 37 #[.slice (some ⟨g1, o1, none⟩) l.length c1, .int .i64 x.From] (by kernel_rfl) rfl rfl (by kernel_rfl) (by simp [go_sem]) ((CQ1.out _ _ (SW.out.tran SA0.drew)).mono ?_)
        rintro e w4 ⟨rfl, hb4⟩
        have SA1 := SA0.drew.step hb4
        clear hHeld hb4
        refine ⟨_, rfl, (by exact HXX.out _ SA1), fun hHeld => ?_⟩
        simp only [Act.put, List.setIfInBounds_toArray, List.set_cons_zero, List.set_cons_succ]
        refine handRead 6 (some 25) (.bool false) rfl rfl (by kernel_rfl) (by kernel_rfl) (by kernel_rfl) (fun _ _ _ h => h) (by kernel_rfl) (by assumption) ?_ ?_
        · intro w hSw
          (try dsimp only at hSw)
          go_simp
        simp only [Act.put, List.setIfInBounds_toArray, List.set_cons_zero, List.set_cons_succ]
        refine wpAnyH_done (by kernel_rfl) ?_ _
        have SW4 : Hid (Since (W.alloc (.cells #[.int .i64 lo, .int .i64 hi, .slice (some ⟨g2, o2, none⟩) hs.length c2] 32)).heap.size (W.alloc (.cells #[.int .i64 lo, .int .i64 hi, .slice (some ⟨g2, o2, none⟩) hs.length c2] 32)) w4) := SW.out.tran SA1
        have HO4 : Hid (Own w4 (W.alloc (.cells #[.int .i64 lo, .int .i64 hi, .slice (some ⟨g2, o2, none⟩) hs.length c2] 32)).heap.size (.slice a ml.length c) ml) := rowBelow HO3.out SA1.1
        go_wp2
        go_roundw
        case rel => exact ⟨k + 1, a, c, by omega, by go_num, by rw [hm2, HE.out], by rw [hm2, HE.out]; exact ⟨HO4.out, SW4.out⟩⟩
        case measure => simp [intOf]; omega
    · have hlt' : ¬ (k : Int) < (hs.length : Int) := by omega
      have e : k = hs.length := by omega
      subst e
      rw [List.take_length] at HK
      obtain ⟨q0, q1, q2⟩ := HX.out wr HK.out.2
      obtain ⟨a6, ha6⟩ : ∃ a6, a6 = a := ⟨_, rfl⟩
      obtain ⟨c6, hc6⟩ : ∃ c6, c6 = c := ⟨_, rfl⟩
      rw [← ha6, ← hc6] at HK ⊢
      clear ha6 hc6
      have HZ1 : Hid (Own wr (W.alloc (.cells #[.int .i64 lo, .int .i64 hi, .slice (some ⟨g2, o2, none⟩) hs.length c2] 32)).heap.size (.slice a6 (fromsOf (newsHv hs l)).length c6) (fromsOf (newsHv hs l)) ∧ Since (W.alloc (.cells #[.int .i64 lo, .int .i64 hi, .slice (some ⟨g2, o2, none⟩) hs.length c2] 32)).heap.size (W.alloc (.cells #[.int .i64 lo, .int .i64 hi, .slice (some ⟨g2, o2, none⟩) hs.length c2] 32)) wr) := HK.out
      clear HK
      generalize wr = w6 at *
      go_wp2
      clear q0 q1 q2
      go_loopw [7, 34] (fun u i wr => ∃ (k : Nat) (a : Option Addr) (c : Nat), k ≤ l.length ∧ i = .int .i64 k ∧ u = .slice a (beyondHv (l.take k) ⟨lo, hi, hs⟩).length c ∧ Hid (OwnHv wr (W.alloc (.cells #[.int .i64 lo, .int .i64 hi, .slice (some ⟨g2, o2, none⟩) hs.length c2] 32)).heap.size (.slice a (beyondHv (l.take k) ⟨lo, hi, hs⟩).length c) (beyondHv (l.take k) ⟨lo, hi, hs⟩) ∧ Since (W.alloc (.cells #[.int .i64 lo, .int .i64 hi, .slice (some ⟨g2, o2, none⟩) hs.length c2] 32)).heap.size (W.alloc (.cells #[.int .i64 lo, .int .i64 hi, .slice (some ⟨g2, o2, none⟩) hs.length c2] 32)) wr ∧ Own wr (W.alloc (.cells #[.int .i64 lo, .int .i64 hi, .slice (some ⟨g2, o2, none⟩) hs.length c2] 32)).heap.size (.slice a6 (fromsOf (newsHv hs l)).length c6) (fromsOf (newsHv hs l)))) (fun _ i _ => l.length - (intOf i).toNat)
      case atStart => exact ⟨0, none, 0, Nat.zero_le _, rfl, rfl, OwnHv.nil _ _, HZ1.out.2, HZ1.out.1⟩
      case round =>
        obtain ⟨k, a, c, hk, rfl, rfl, HK⟩ := hrel
        by_cases hlt : k < l.length
        · have hlt' : (k : Int) < (l.length : Int) := by omega
          obtain ⟨m0, m1⟩ := HC1.out wr HK.out.2.1 k hlt
          obtain ⟨q0, q1, q2⟩ := HX.out wr HK.out.2.1
          have HN := SN2.out k hlt
          have hln := LN2.out k
          have HO2 : Hid (OwnHv wr (W.alloc (.cells #[.int .i64 lo, .int .i64 hi, .slice (some ⟨g2, o2, none⟩) hs.length c2] 32)).heap.size (.slice a (beyondHv (l.take k) ⟨lo, hi, hs⟩).length c) (beyondHv (l.take k) ⟨lo, hi, hs⟩)) := HK.out.1
          have SW0 : Hid (Since (W.alloc (.cells #[.int .i64 lo, .int .i64 hi, .slice (some ⟨g2, o2, none⟩) hs.length c2] 32)).heap.size (W.alloc (.cells #[.int .i64 lo, .int .i64 hi, .slice (some ⟨g2, o2, none⟩) hs.length c2] 32)) wr) := HK.out.2.1
          have HU2 : Hid (Own wr (W.alloc (.cells #[.int .i64 lo, .int .i64 hi, .slice (some ⟨g2, o2, none⟩) hs.length c2] 32)).heap.size (.slice a6 (fromsOf (newsHv hs l)).length c6) (fromsOf (newsHv hs l))) := HK.out.2.2
          clear HK
          generalize l[k] = x at *
          generalize hm1 : (beyondHv (l.take k) ⟨lo, hi, hs⟩) = ml at *
          generalize hm2 : (beyondHv (l.take (k + 1)) ⟨lo, hi, hs⟩) = m2 at *
          clear hm1
          have SW : Hid (Since (W.alloc (.cells #[.int .i64 lo, .int .i64 hi, .slice (some ⟨g2, o2, none⟩) hs.length c2] 32)).heap.size (W.alloc (.cells #[.int .i64 lo, .int .i64 hi, .slice (some ⟨g2, o2, none⟩) hs.length c2] 32)) (wr.alloc (.cells #[.int .i64 x.From, .int .i64 x.Seq] 41))) := SW0.out.step ((Below.refl _ wr).alloc (Nat.le_refl _) _)
          have HXX : Hid (∀ w', Since (wr.alloc (.cells #[.int .i64 x.From, .int .i64 x.Seq] 41)).heap.size (wr.alloc (.cells #[.int .i64 x.From, .int .i64 x.Seq] 41)) w' → (w'.cell? ⟨W.heap.size, 0, none⟩ = some (.int .i64 lo) ∧ w'.cell? ⟨W.heap.size, 1, none⟩ = some (.int .i64 hi) ∧ w'.cell? ⟨W.heap.size, 2, none⟩ = some (.slice (some ⟨g2, o2, none⟩) hs.length c2)) ∧ w'.cell? ⟨wr.heap.size, 0, none⟩ = some (.int .i64 x.From) ∧ w'.cell? ⟨wr.heap.size, 1, none⟩ = some (.int .i64 x.Seq)) := fun w' hs => ⟨HX.out w' (SW.out.tran hs), hvNew wr x w' hs⟩
          have HO3 : Hid (OwnHv (wr.alloc (.cells #[.int .i64 x.From, .int .i64 x.Seq] 41)) (W.alloc (.cells #[.int .i64 lo, .int .i64 hi, .slice (some ⟨g2, o2, none⟩) hs.length c2] 32)).heap.size (.slice a ml.length c) ml) := rowBelow HO2.out ((Below.refl _ wr).alloc (Nat.le_refl _) _)
          have HU3 : Hid (Own (wr.alloc (.cells #[.int .i64 x.From, .int .i64 x.Seq] 41)) (W.alloc (.cells #[.int .i64 lo, .int .i64 hi, .slice (some ⟨g2, o2, none⟩) hs.length c2] 32)).heap.size (.slice a6 (fromsOf (newsHv hs l)).length c6) (fromsOf (newsHv hs l))) := rowBelow HU2.out ((Below.refl _ wr).alloc (Nat.le_refl _) _)
          clear HO2 SW0 HU2 q0 q1 q2
          by_cases hin : lo ≤ x.From ∧ x.From ≤ hi
          · have HIN : Hid (decide (lo ≤ x.From ∧ x.From ≤ hi) = true) := decide_eq_true hin
            by_cases hp : seqIn hs x.From < x.Seq
            · have HE : Hid (m2 = ml ++ [x]) := by show _ = _; rw [HN, if_pos ⟨hin, hp⟩]
              have hq : decide (seqIn hs x.From < x.Seq) = true := decide_eq_true hp
              clear HN hp hin
              go_wp2
              have SA0 := Since.start (wr.alloc (.cells #[.int .i64 x.From, .int .i64 x.Seq] 41))
              refine wp_region_held_drew (S := (fun w' => (w'.cell? ⟨W.heap.size, 0, none⟩ = some (.int .i64 lo) ∧ w'.cell? ⟨W.heap.size, 1, none⟩ = some (.int .i64 hi) ∧ w'.cell? ⟨W.heap.size, 2, none⟩ = some (.slice (some ⟨g2, o2, none⟩) hs.length c2)) ∧ w'.cell? ⟨wr.heap.size, 0, none⟩ = some (.int .i64 x.From) ∧ w'.cell? ⟨wr.heap.size, 1, none⟩ = some (.int .i64 x.Seq))) (by kernel_rfl) ?_ (fun hHeld => ?_)
              · exact HXX.out _ SA0.drew
              refine handRead 0 (some 38) (.pointer (some ⟨wr.heap.size, 0, none⟩)) rfl rfl (by kernel_rfl) (by kernel_rfl) (by kernel_rfl) (fun _ _ _ h => h) (by kernel_rfl) (by assumption) ?_ ?_
              · intro w hSw
                (try dsimp only at hSw)
                go_simp
              simp only [Act.put, List.setIfInBounds_toArray, List.set_cons_zero, List.set_cons_succ]
              refine handRead 1 (some 39) (.int .i64 x.From) rfl rfl (by kernel_rfl) (by kernel_rfl) (by kernel_rfl) (fun _ _ _ h => h) (by kernel_rfl) (by assumption) ?_ ?_
              · intro w hSw
                (try dsimp only at hSw)
                go_simp
              simp only [Act.put, List.setIfInBounds_toArray, List.set_cons_zero, List.set_cons_succ]
              refine handRead 2 (some 40) (.pointer (some ⟨W.heap.size, 0, none⟩)) rfl rfl (by kernel_rfl) (by kernel_rfl) (by kernel_rfl) (fun _ _ _ h => h) (by kernel_rfl) (by assumption) ?_ ?_
              · intro w hSw
                (try dsimp only at hSw)
                go_simp
              simp only [Act.put, List.setIfInBounds_toArray, List.set_cons_zero, List.set_cons_succ]
              refine handRead 3 (some 41) (.int .i64 lo) rfl rfl (by kernel_rfl) (by kernel_rfl) (by kernel_rfl) (fun _ _ _ h => h) (by kernel_rfl) (by assumption) ?_ ?_
              · intro w hSw
                (try dsimp only at hSw)
                go_simp
              simp only [Act.put, List.setIfInBounds_toArray, List.set_cons_zero, List.set_cons_succ]
              refine handRead 4 (some 42) (.pointer (some ⟨W.heap.size, 1, none⟩)) rfl rfl (by kernel_rfl) (by kernel_rfl) (by kernel_rfl) (fun _ _ _ h => h) (by kernel_rfl) (by assumption) ?_ ?_
              · intro w hSw
                (try dsimp only at hSw)
                go_simp
              simp only [Act.put, List.setIfInBounds_toArray, List.set_cons_zero, List.set_cons_succ]
              refine handRead 5 (some 43) (.int .i64 hi) rfl rfl (by kernel_rfl) (by kernel_rfl) (by kernel_rfl) (fun _ _ _ h => h) (by kernel_rfl) (by assumption) ?_ ?_
              · intro w hSw
                (try dsimp only at hSw)
                go_simp
              simp only [Act.put, List.setIfInBounds_toArray, List.set_cons_zero, List.set_cons_succ]
              refine handCall 6 (some 44) 33 #[.int .i64 x.From, .int .i64 lo, .int .i64 hi] (by kernel_rfl) rfl rfl (by kernel_rfl) (by simp [go_sem]) ((l1In_any _ _ _ _).mono ?_)
              rintro e w4 ⟨rfl, rfl⟩
              rw [show decide (lo ≤ x.From ∧ x.From ≤ hi) = true from HIN.out]
              refine ⟨_, rfl, (by exact hHeld), fun hHeld => ?_⟩
              simp only [Act.put, List.setIfInBounds_toArray, List.set_cons_zero, List.set_cons_succ]
              refine handRead 7 (some 45) (.bool true) rfl rfl (by kernel_rfl) (by kernel_rfl) (by kernel_rfl) (fun _ _ _ h => h) (by kernel_rfl) (by assumption) ?_ ?_
              · intro w hSw
                (try dsimp only at hSw)
                go_simp
              simp only [Act.put, List.setIfInBounds_toArray, List.set_cons_zero, List.set_cons_succ]
              refine handRead 8 (some 46) (.pointer (some ⟨wr.heap.size, 1, none⟩)) rfl rfl (by kernel_rfl) (by kernel_rfl) (by kernel_rfl) (fun _ _ _ h => h) (by kernel_rfl) (by assumption) ?_ ?_
              · intro w hSw
                (try dsimp only at hSw)
                go_simp
              simp only [Act.put, List.setIfInBounds_toArray, List.set_cons_zero, List.set_cons_succ]
              refine handRead 9 (some 47) (.int .i64 x.Seq) rfl rfl (by kernel_rfl) (by kernel_rfl) (by kernel_rfl) (fun _ _ _ h => h) (by kernel_rfl) (by assumption) ?_ ?_
              · intro w hSw
                (try dsimp only at hSw)
                go_simp
              simp only [Act.put, List.setIfInBounds_toArray, List.set_cons_zero, List.set_cons_succ]
              refine handRead 10 (some 48) (.pointer (some ⟨W.heap.size, 2, none⟩)) rfl rfl (by kernel_rfl) (by kernel_rfl) (by kernel_rfl) (fun _ _ _ h => h) (by kernel_rfl) (by assumption) ?_ ?_
              · intro w hSw
                (try dsimp only at hSw)
                go_simp
              simp only [Act.put, List.setIfInBounds_toArray, List.set_cons_zero, List.set_cons_succ]
              refine handRead 11 (some 49) (.slice (some ⟨g2, o2, none⟩) hs.length c2) rfl rfl (by kernel_rfl) (by kernel_rfl) (by kernel_rfl) (fun _ _ _ h => h) (by kernel_rfl) (by assumption) ?_ ?_
              · intro w hSw
                (try dsimp only at hSw)
                go_simp
              simp only [Act.put, List.setIfInBounds_toArray, List.set_cons_zero, List.set_cons_succ]
              refine handRead 12 (some 50) (.pointer (some ⟨wr.heap.size, 0, none⟩)) rfl rfl (by kernel_rfl) (by kernel_rfl) (by kernel_rfl) (fun _ _ _ h => h) (by kernel_rfl) (by assumption) ?_ ?_
              · intro w hSw
                (try dsimp only at hSw)
                go_simp
              simp only [Act.put, List.setIfInBounds_toArray, List.set_cons_zero, List.set_cons_succ]
              refine handRead 13 (some 51) (.int .i64 x.From) rfl rfl (by kernel_rfl) (by kernel_rfl) (by kernel_rfl) (fun _ _ _ h => h) (by kernel_rfl) (by assumption) ?_ ?_
              · intro w hSw
                (try dsimp only at hSw)
                go_simp
              simp only [Act.put, List.setIfInBounds_toArray, List.set_cons_zero, List.set_cons_succ]
              refine handCall 14 (some 52) 37 #[.slice (some ⟨g2, o2, none⟩) hs.length c2, .int .i64 x.From] (by kernel_rfl) rfl rfl (by kernel_rfl) (by simp [go_sem]) ((CQ2.out _ _ (SW.out.tran SA0.drew)).mono ?_)
              rintro e w4 ⟨rfl, hb4⟩
              have SA1 := SA0.drew.step hb4
              clear hHeld hb4
              refine ⟨_, rfl, (by exact HXX.out _ SA1), fun hHeld => ?_⟩
              simp only [Act.put, List.setIfInBounds_toArray, List.set_cons_zero, List.set_cons_succ]
              refine handRead 15 (some 53) (.bool true) rfl rfl (by kernel_rfl) (by kernel_rfl) (by kernel_rfl) (fun _ _ _ h => h) (by kernel_rfl) (by assumption) ?_ ?_
              · intro w hSw
                (try dsimp only at hSw)
                go_simp
              simp only [Act.put, List.setIfInBounds_toArray, List.set_cons_zero, List.set_cons_succ]
              refine handRead 16 (some 54) (.bool true) rfl rfl (by kernel_rfl) (by kernel_rfl) (by kernel_rfl) (fun _ _ _ h => h) (by kernel_rfl) (by assumption) ?_ ?_
              · intro w hSw
                (try dsimp only at hSw)
                go_simp
              simp only [Act.put, List.setIfInBounds_toArray, List.set_cons_zero, List.set_cons_succ]
              refine wpAnyH_done (by kernel_rfl) ?_ _
              have HU4 : Hid (Own w4 (W.alloc (.cells #[.int .i64 lo, .int .i64 hi, .slice (some ⟨g2, o2, none⟩) hs.length c2] 32)).heap.size (.slice a6 (fromsOf (newsHv hs l)).length c6) (fromsOf (newsHv hs l))) := rowBelow HU3.out SA1.1
              have SW4 : Hid (Since (W.alloc (.cells #[.int .i64 lo, .int .i64 hi, .slice (some ⟨g2, o2, none⟩) hs.length c2] 32)).heap.size (W.alloc (.cells #[.int .i64 lo, .int .i64 hi, .slice (some ⟨g2, o2, none⟩) hs.length c2] 32)) w4) := SW.out.tran SA1
              have HO4 : Hid (OwnHv w4 (W.alloc (.cells #[.int .i64 lo, .int .i64 hi, .slice (some ⟨g2, o2, none⟩) hs.length c2] 32)).heap.size (.slice a ml.length c) ml) := rowBelow HO3.out SA1.1
              have HAP : Hid (∀ k, (Value.slice a ml.length c).ownBlock = some k → (Value.slice a6 (fromsOf (newsHv hs l)).length c6).ownBlock ≠ some k) := rowsApart HO4.out HU4.out (by decide)
              have HA : Hid (∀ ty, ∃ v' w', (Builtin.append_ #[23, 23] ty #[.slice a ml.length c, .slice (some ⟨w4.heap.size, 0, none⟩) 1 1]).run Try.prog (w4.alloc (.cells #[.int .i64 x.From, .int .i64 x.Seq] 41)) = .ok v' w' ∧ Grown (w4.alloc (.cells #[.int .i64 x.From, .int .i64 x.Seq] 41)) (W.alloc (.cells #[.int .i64 lo, .int .i64 hi, .slice (some ⟨g2, o2, none⟩) hs.length c2] 32)).heap.size 41 2 (.slice a ml.length c) (ml ++ [x]).length (cellsHv (ml ++ [x])) v' w') := fun ty =>
                run_appHv (w4.alloc (.cells #[.int .i64 x.From, .int .i64 x.Seq] 41)) (W.alloc (.cells #[.int .i64 lo, .int .i64 hi, .slice (some ⟨g2, o2, none⟩) hs.length c2] 32)).heap.size (.slice a ml.length c) ml (rowBelow HO4.out ((Below.refl _ _).alloc (Nat.le_refl _) _)) _ [x] (src_new w4 x 1) (by simp <;> omega) (Nat.le_trans SW4.out.2 (by simp)) ty
              have SW5 : Hid (Since (W.alloc (.cells #[.int .i64 lo, .int .i64 hi, .slice (some ⟨g2, o2, none⟩) hs.length c2] 32)).heap.size (W.alloc (.cells #[.int .i64 lo, .int .i64 hi, .slice (some ⟨g2, o2, none⟩) hs.length c2] 32)) (w4.alloc (.cells #[.int .i64 x.From, .int .i64 x.Seq] 41))) := SW4.out.step ((Below.refl _ _).alloc (Nat.le_refl _) _)
              obtain ⟨-, p0, p1⟩ := HXX.out _ SA1
              go_wp2_with (at_builtin; refine list_app (by rfl) (.tmp 55) (.tmp 57) 23 (by rfl) (.slice a ml.length c) (.slice (some ⟨w4.heap.size, 0, none⟩) 1 1) (by rfl) (by rfl) _ HA.out ?_; intro v5 w5 hg5; have HF : Hid (OwnHv w5 (W.alloc (.cells #[.int .i64 lo, .int .i64 hi, .slice (some ⟨g2, o2, none⟩) hs.length c2] 32)).heap.size v5 m2 ∧ Since (W.alloc (.cells #[.int .i64 lo, .int .i64 hi, .slice (some ⟨g2, o2, none⟩) hs.length c2] 32)).heap.size (W.alloc (.cells #[.int .i64 lo, .int .i64 hi, .slice (some ⟨g2, o2, none⟩) hs.length c2] 32)) w5 ∧ Own w5 (W.alloc (.cells #[.int .i64 lo, .int .i64 hi, .slice (some ⟨g2, o2, none⟩) hs.length c2] 32)).heap.size (.slice a6 (fromsOf (newsHv hs l)).length c6) (fromsOf (newsHv hs l))) := ⟨by rw [HE.out]; exact hg5.own, ⟨SW5.out.1.trans hg5.below, Nat.le_trans SW5.out.2 hg5.size⟩, rowGrow (rowBelow HU4.out ((Below.refl _ _).alloc (Nat.le_refl _) _)) hg5.grown (HAP.out)⟩; clear hg5)
              obtain ⟨a7, c7, rfl⟩ := rowShape HF.out.1
              go_roundw
              case rel => exact ⟨k + 1, a7, c7, by omega, by go_num, by rw [hm2], by rw [hm2]; exact HF.out⟩
              case measure => simp [intOf]; omega
            · have HE : Hid (m2 = ml) := by show _ = _; rw [HN, if_neg (fun h => hp h.2)]
              have hq : decide (seqIn hs x.From < x.Seq) = false := decide_eq_false hp
              clear HN hp hin
              go_wp2
              have SA0 := Since.start (wr.alloc (.cells #[.int .i64 x.From, .int .i64 x.Seq] 41))
              refine wp_region_held_drew (S := (fun w' => (w'.cell? ⟨W.heap.size, 0, none⟩ = some (.int .i64 lo) ∧ w'.cell? ⟨W.heap.size, 1, none⟩ = some (.int .i64 hi) ∧ w'.cell? ⟨W.heap.size, 2, none⟩ = some (.slice (some ⟨g2, o2, none⟩) hs.length c2)) ∧ w'.cell? ⟨wr.heap.size, 0, none⟩ = some (.int .i64 x.From) ∧ w'.cell? ⟨wr.heap.size, 1, none⟩ = some (.int .i64 x.Seq))) (by kernel_rfl) ?_ (fun hHeld => ?_)
              · exact HXX.out _ SA0.drew
              refine handRead 0 (some 38) (.pointer (some ⟨wr.heap.size, 0, none⟩)) rfl rfl (by kernel_rfl) (by kernel_rfl) (by kernel_rfl) (fun _ _ _ h => h) (by kernel_rfl) (by assumption) ?_ ?_
              · intro w hSw
                (try dsimp only at hSw)
                go_simp
              simp only [Act.put, List.setIfInBounds_toArray, List.set_cons_zero, List.set_cons_succ]
              refine handRead 1 (some 39) (.int .i64 x.From) rfl rfl (by kernel_rfl) (by kernel_rfl) (by kernel_rfl) (fun _ _ _ h => h) (by kernel_rfl) (by assumption) ?_ ?_
              · intro w hSw
                (try dsimp only at hSw)
                go_simp
              simp only [Act.put, List.setIfInBounds_toArray, List.set_cons_zero, List.set_cons_succ]
              refine handRead 2 (some 40) (.pointer (some ⟨W.heap.size, 0, none⟩)) rfl rfl (by kernel_rfl) (by kernel_rfl) (by kernel_rfl) (fun _ _ _ h => h) (by kernel_rfl) (by assumption) ?_ ?_
              · intro w hSw
                (try dsimp only at hSw)
                go_simp
              simp only [Act.put, List.setIfInBounds_toArray, List.set_cons_zero, List.set_cons_succ]
              refine handRead 3 (some 41) (.int .i64 lo) rfl rfl (by kernel_rfl) (by kernel_rfl) (by kernel_rfl) (fun _ _ _ h => h) (by kernel_rfl) (by assumption) ?_ ?_
              · intro w hSw
                (try dsimp only at hSw)
                go_simp
              simp only [Act.put, List.setIfInBounds_toArray, List.set_cons_zero, List.set_cons_succ]
              refine handRead 4 (some 42) (.pointer (some ⟨W.heap.size, 1, none⟩)) rfl rfl (by kernel_rfl) (by kernel_rfl) (by kernel_rfl) (fun _ _ _ h => h) (by kernel_rfl) (by assumption) ?_ ?_
              · intro w hSw
                (try dsimp only at hSw)
                go_simp
              simp only [Act.put, List.setIfInBounds_toArray, List.set_cons_zero, List.set_cons_succ]
              refine handRead 5 (some 43) (.int .i64 hi) rfl rfl (by kernel_rfl) (by kernel_rfl) (by kernel_rfl) (fun _ _ _ h => h) (by kernel_rfl) (by assumption) ?_ ?_
              · intro w hSw
                (try dsimp only at hSw)
                go_simp
              simp only [Act.put, List.setIfInBounds_toArray, List.set_cons_zero, List.set_cons_succ]
              refine handCall 6 (some 44) 33 #[.int .i64 x.From, .int .i64 lo, .int .i64 hi] (by kernel_rfl) rfl rfl (by kernel_rfl) (by simp [go_sem]) ((l1In_any _ _ _ _).mono ?_)
              rintro e w4 ⟨rfl, rfl⟩
              rw [show decide (lo ≤ x.From ∧ x.From ≤ hi) = true from HIN.out]
              refine ⟨_, rfl, (by exact hHeld), fun hHeld => ?_⟩
              simp only [Act.put, List.setIfInBounds_toArray, List.set_cons_zero, List.set_cons_succ]
              refine handRead 7 (some 45) (.bool true) rfl rfl (by kernel_rfl) (by kernel_rfl) (by kernel_rfl) (fun _ _ _ h => h) (by kernel_rfl) (by assumption) ?_ ?_
              · intro w hSw
                (try dsimp only at hSw)
                go_simp
              simp only [Act.put, List.setIfInBounds_toArray, List.set_cons_zero, List.set_cons_succ]
              refine handRead 8 (some 46) (.pointer (some ⟨wr.heap.size, 1, none⟩)) rfl rfl (by kernel_rfl) (by kernel_rfl) (by kernel_rfl) (fun _ _ _ h => h) (by kernel_rfl) (by assumption) ?_ ?_
              · intro w hSw
                (try dsimp only at hSw)
                go_simp
              simp only [Act.put, List.setIfInBounds_toArray, List.set_cons_zero, List.set_cons_succ]
              refine handRead 9 (some 47) (.int .i64 x.Seq) rfl rfl (by kernel_rfl) (by kernel_rfl) (by kernel_rfl) (fun _ _ _ h => h) (by kernel_rfl) (by assumption) ?_ ?_
              · intro w hSw
                (try dsimp only at hSw)
                go_simp
              simp only [Act.put, List.setIfInBounds_toArray, List.set_cons_zero, List.set_cons_succ]
              refine handRead 10 (some 48) (.pointer (some ⟨W.heap.size, 2, none⟩)) rfl rfl (by kernel_rfl) (by kernel_rfl) (by kernel_rfl) (fun _ _ _ h => h) (by kernel_rfl) (by assumption) ?_ ?_
              · intro w hSw
                (try dsimp only at hSw)
                go_simp
              simp only [Act.put, List.setIfInBounds_toArray, List.set_cons_zero, List.set_cons_succ]
              refine handRead 11 (some 49) (.slice (some ⟨g2, o2, none⟩) hs.length c2) rfl rfl (by kernel_rfl) (by kernel_rfl) (by kernel_rfl) (fun _ _ _ h => h) (by kernel_rfl) (by assumption) ?_ ?_
              · intro w hSw
                (try dsimp only at hSw)
                go_simp
              simp only [Act.put, List.setIfInBounds_toArray, List.set_cons_zero, List.set_cons_succ]
              refine handRead 12 (some 50) (.pointer (some ⟨wr.heap.size, 0, none⟩)) rfl rfl (by kernel_rfl) (by kernel_rfl) (by kernel_rfl) (fun _ _ _ h => h) (by kernel_rfl) (by assumption) ?_ ?_
              · intro w hSw
                (try dsimp only at hSw)
                go_simp
              simp only [Act.put, List.setIfInBounds_toArray, List.set_cons_zero, List.set_cons_succ]
              refine handRead 13 (some 51) (.int .i64 x.From) rfl rfl (by kernel_rfl) (by kernel_rfl) (by kernel_rfl) (fun _ _ _ h => h) (by kernel_rfl) (by assumption) ?_ ?_
              · intro w hSw
                (try dsimp only at hSw)
                go_simp
              simp only [Act.put, List.setIfInBounds_toArray, List.set_cons_zero, List.set_cons_succ]
              refine handCall 14 (some 52) 37 #[.slice (some ⟨g2, o2, none⟩) hs.length c2, .int .i64 x.From] (by kernel_rfl) rfl rfl (by kernel_rfl) (by simp [go_sem]) ((CQ2.out _ _ (SW.out.tran SA0.drew)).mono ?_)
              rintro e w4 ⟨rfl, hb4⟩
              have SA1 := SA0.drew.step hb4
              clear hHeld hb4
              refine ⟨_, rfl, (by exact HXX.out _ SA1), fun hHeld => ?_⟩
              simp only [Act.put, List.setIfInBounds_toArray, List.set_cons_zero, List.set_cons_succ]
              refine handRead 15 (some 53) (.bool false) rfl rfl (by kernel_rfl) (by kernel_rfl) (by kernel_rfl) (fun _ _ _ h => h) (by kernel_rfl) (by assumption) ?_ ?_
              · intro w hSw
                (try dsimp only at hSw)
                go_simp
              simp only [Act.put, List.setIfInBounds_toArray, List.set_cons_zero, List.set_cons_succ]
              refine handRead 16 (some 54) (.bool false) rfl rfl (by kernel_rfl) (by kernel_rfl) (by kernel_rfl) (fun _ _ _ h => h) (by kernel_rfl) (by assumption) ?_ ?_
              · intro w hSw
                (try dsimp only at hSw)
                go_simp
              simp only [Act.put, List.setIfInBounds_toArray, List.set_cons_zero, List.set_cons_succ]
              refine wpAnyH_done (by kernel_rfl) ?_ _
              have HU4 : Hid (Own w4 (W.alloc (.cells #[.int .i64 lo, .int .i64 hi, .slice (some ⟨g2, o2, none⟩) hs.length c2] 32)).heap.size (.slice a6 (fromsOf (newsHv hs l)).length c6) (fromsOf (newsHv hs l))) := rowBelow HU3.out SA1.1
              have SW4 : Hid (Since (W.alloc (.cells #[.int .i64 lo, .int .i64 hi, .slice (some ⟨g2, o2, none⟩) hs.length c2] 32)).heap.size (W.alloc (.cells #[.int .i64 lo, .int .i64 hi, .slice (some ⟨g2, o2, none⟩) hs.length c2] 32)) w4) := SW.out.tran SA1
              have HO4 : Hid (OwnHv w4 (W.alloc (.cells #[.int .i64 lo, .int .i64 hi, .slice (some ⟨g2, o2, none⟩) hs.length c2] 32)).heap.size (.slice a ml.length c) ml) := rowBelow HO3.out SA1.1
              go_wp2
              go_roundw
              case rel => exact ⟨k + 1, a, c, by omega, by go_num, by rw [hm2, HE.out], by rw [hm2, HE.out]; exact ⟨HO4.out, SW4.out, HU4.out⟩⟩
              case measure => simp [intOf]; omega
          · have HIN : Hid (decide (lo ≤ x.From ∧ x.From ≤ hi) = false) := decide_eq_false hin
            have HE : Hid (m2 = ml) := by show _ = _; rw [HN, if_neg (fun h => hin h.1)]
            clear HN hin
            go_wp2
            have SA0 := Since.start (wr.alloc (.cells #[.int .i64 x.From, .int .i64 x.Seq] 41))
            refine wp_region_held_drew (S := (fun w' => (w'.cell? ⟨W.heap.size, 0, none⟩ = some (.int .i64 lo) ∧ w'.cell? ⟨W.heap.size, 1, none⟩ = some (.int .i64 hi) ∧ w'.cell? ⟨W.heap.size, 2, none⟩ = some (.slice (some ⟨g2, o2, none⟩) hs.length c2)) ∧ w'.cell? ⟨wr.heap.size, 0, none⟩ = some (.int .i64 x.From) ∧ w'.cell? ⟨wr.heap.size, 1, none⟩ = some (.int .i64 x.Seq))) (by kernel_rfl) ?_ (fun hHeld => ?_)
            · exact HXX.out _ SA0.drew
            refine handRead 0 (some 38) (.pointer (some ⟨wr.heap.size, 0, none⟩)) rfl rfl (by kernel_rfl) (by kernel_rfl) (by kernel_rfl) (fun _ _ _ h => h) (by kernel_rfl) (by assumption) ?_ ?_
            · intro w hSw
              (try dsimp only at hSw)
              go_simp
            simp only [Act.put, List.setIfInBounds_toArray, List.set_cons_zero, List.set_cons_succ]
            refine handRead 1 (some 39) (.int .i64 x.From) rfl rfl (by kernel_rfl) (by kernel_rfl) (by kernel_rfl) (fun _ _ _ h => h) (by kernel_rfl) (by assumption) ?_ ?_
            · intro w hSw
              (try dsimp only at hSw)
              go_simp
            simp only [Act.put, List.setIfInBounds_toArray, List.set_cons_zero, List.set_cons_succ]
            refine handRead 2 (some 40) (.pointer (some ⟨W.heap.size, 0, none⟩)) rfl rfl (by kernel_rfl) (by kernel_rfl) (by kernel_rfl) (fun _ _ _ h => h) (by kernel_rfl) (by assumption) ?_ ?_
            · intro w hSw
              (try dsimp only at hSw)
              go_simp
            simp only [Act.put, List.setIfInBounds_toArray, List.set_cons_zero, List.set_cons_succ]
            refine handRead 3 (some 41) (.int .i64 lo) rfl rfl (by kernel_rfl) (by kernel_rfl) (by kernel_rfl) (fun _ _ _ h => h) (by kernel_rfl) (by assumption) ?_ ?_
            · intro w hSw
              (try dsimp only at hSw)
              go_simp
            simp only [Act.put, List.setIfInBounds_toArray, List.set_cons_zero, List.set_cons_succ]
            refine handRead 4 (some 42) (.pointer (some ⟨W.heap.size, 1, none⟩)) rfl rfl (by kernel_rfl) (by kernel_rfl) (by kernel_rfl) (fun _ _ _ h => h) (by kernel_rfl) (by assumption) ?_ ?_
            · intro w hSw
              (try dsimp only at hSw)
              go_simp
            simp only [Act.put, List.setIfInBounds_toArray, List.set_cons_zero, List.set_cons_succ]
            refine handRead 5 (some 43) (.int .i64 hi) rfl rfl (by kernel_rfl) (by kernel_rfl) (by kernel_rfl) (fun _ _ _ h => h) (by kernel_rfl) (by assumption) ?_ ?_
            · intro w hSw
              (try dsimp only at hSw)
              go_simp
            simp only [Act.put, List.setIfInBounds_toArray, List.set_cons_zero, List.set_cons_succ]
            refine handCall 6 (some 44) 33 #[.int .i64 x.From, .int .i64 lo, .int .i64 hi] (by kernel_rfl) rfl rfl (by kernel_rfl) (by simp [go_sem]) ((l1In_any _ _ _ _).mono ?_)
            rintro e w4 ⟨rfl, rfl⟩
            rw [show decide (lo ≤ x.From ∧ x.From ≤ hi) = false from HIN.out]
            refine ⟨_, rfl, (by exact hHeld), fun hHeld => ?_⟩
            simp only [Act.put, List.setIfInBounds_toArray, List.set_cons_zero, List.set_cons_succ]
            refine handRead 7 (some 45) (.bool false) rfl rfl (by kernel_rfl) (by kernel_rfl) (by kernel_rfl) (fun _ _ _ h => h) (by kernel_rfl) (by assumption) ?_ ?_
            · intro w hSw
              (try dsimp only at hSw)
              go_simp
            simp only [Act.put, List.setIfInBounds_toArray, List.set_cons_zero, List.set_cons_succ]
            refine handSkip 8 (some 46) rfl rfl (by kernel_rfl) (by kernel_rfl) (by kernel_rfl) (fun _ _ _ h => h) (by kernel_rfl) (by assumption) ?_
            simp only [Act.put, List.setIfInBounds_toArray, List.set_cons_zero, List.set_cons_succ]
            refine handSkip 9 (some 47) rfl rfl (by kernel_rfl) (by kernel_rfl) (by kernel_rfl) (fun _ _ _ h => h) (by kernel_rfl) (by assumption) ?_
            simp only [Act.put, List.setIfInBounds_toArray, List.set_cons_zero, List.set_cons_succ]
            refine handSkip 10 (some 48) rfl rfl (by kernel_rfl) (by kernel_rfl) (by kernel_rfl) (fun _ _ _ h => h) (by kernel_rfl) (by assumption) ?_
            simp only [Act.put, List.setIfInBounds_toArray, List.set_cons_zero, List.set_cons_succ]
            refine handSkip 11 (some 49) rfl rfl (by kernel_rfl) (by kernel_rfl) (by kernel_rfl) (fun _ _ _ h => h) (by kernel_rfl) (by assumption) ?_
            simp only [Act.put, List.setIfInBounds_toArray, List.set_cons_zero, List.set_cons_succ]
            refine handSkip 12 (some 50) rfl rfl (by kernel_rfl) (by kernel_rfl) (by kernel_rfl) (fun _ _ _ h => h) (by kernel_rfl) (by assumption) ?_
            simp only [Act.put, List.setIfInBounds_toArray, List.set_cons_zero, List.set_cons_succ]
            refine handSkip 13 (some 51) rfl rfl (by kernel_rfl) (by kernel_rfl) (by kernel_rfl) (fun _ _ _ h => h) (by kernel_rfl) (by assumption) ?_
            simp only [Act.put, List.setIfInBounds_toArray, List.set_cons_zero, List.set_cons_succ]
            refine handSkip 14 (some 52) rfl rfl (by kernel_rfl) (by kernel_rfl) (by kernel_rfl) (fun _ _ _ h => h) (by kernel_rfl) (by assumption) ?_
            simp only [Act.put, List.setIfInBounds_toArray, List.set_cons_zero, List.set_cons_succ]
            refine handSkip 15 (some 53) rfl rfl (by kernel_rfl) (by kernel_rfl) (by kernel_rfl) (fun _ _ _ h => h) (by kernel_rfl) (by assumption) ?_
            simp only [Act.put, List.setIfInBounds_toArray, List.set_cons_zero, List.set_cons_succ]
            refine handRead 16 (some 54) (.bool false) rfl rfl (by kernel_rfl) (by kernel_rfl) (by kernel_rfl) (fun _ _ _ h => h) (by kernel_rfl) (by assumption) ?_ ?_
            · intro w hSw
              (try dsimp only at hSw)
              go_simp
            simp only [Act.put, List.setIfInBounds_toArray, List.set_cons_zero, List.set_cons_succ]
            refine wpAnyH_done (by kernel_rfl) ?_ _
            have HU4 : Hid (Own (wr.alloc (.cells #[.int .i64 x.From, .int .i64 x.Seq] 41)).drew (W.alloc (.cells #[.int .i64 lo, .int .i64 hi, .slice (some ⟨g2, o2, none⟩) hs.length c2] 32)).heap.size (.slice a6 (fromsOf (newsHv hs l)).length c6) (fromsOf (newsHv hs l))) := rowSame HU3.out fun _ _ => rfl
            have SW4 : Hid (Since (W.alloc (.cells #[.int .i64 lo, .int .i64 hi, .slice (some ⟨g2, o2, none⟩) hs.length c2] 32)).heap.size (W.alloc (.cells #[.int .i64 lo, .int .i64 hi, .slice (some ⟨g2, o2, none⟩) hs.length c2] 32)) (wr.alloc (.cells #[.int .i64 x.From, .int .i64 x.Seq] 41)).drew) := SW.out.drew
            have HO4 : Hid (OwnHv (wr.alloc (.cells #[.int .i64 x.From, .int .i64 x.Seq] 41)).drew (W.alloc (.cells #[.int .i64 lo, .int .i64 hi, .slice (some ⟨g2, o2, none⟩) hs.length c2] 32)).heap.size (.slice a ml.length c) ml) := rowSame HO3.out fun _ _ => rfl
            go_wp2
            go_roundw
            case rel => exact ⟨k + 1, a, c, by omega, by go_num, by rw [hm2, HE.out], by rw [hm2, HE.out]; exact ⟨HO4.out, SW4.out, HU4.out⟩⟩
            case measure => simp [intOf]; omega
        · have hlt' : ¬ (k : Int) < (l.length : Int) := by omega
          have e : k = l.length := by omega
          subst e
          rw [List.take_length] at HK
          have HFIN : Hid (Own wr W.heap.size (.slice a6 (fromsOf (newsHv hs l)).length c6) (fromsOf (newsHv hs l)) ∧ OwnHv wr W.heap.size (.slice a (beyondHv l ⟨lo, hi, hs⟩).length c) (beyondHv l ⟨lo, hi, hs⟩) ∧ Below W.heap.size W wr) := ⟨rowMono HK.out.2.2 HWB.out, rowMono HK.out.1 HWB.out, HB1.out.trans (HK.out.2.1.1.mono HWB.out)⟩
          clear HK
          go_wp2
          refine bodyPost_ret (results_tmp2 rfl _ _ _) rfl ?_
          exact ⟨_, _, rfl, HFIN.out⟩

theorem l7Ask_any (W : World) (v1 v2 : Value) (l : List HvD) (s : SmD) (h1 : LiesHv W v1 l) (h2 : LiesHv W v2 s.Hs) (hl : l.length ≤ 50000) (hls : s.Hs.length ≤ 50000) :
    Calls Try.prog 35 #[v1, .agg #[.int .i64 s.Lo, .int .i64 s.Hi, v2]] W (AskPost2 W (fromsOf (newsHv s.Hs l)) (beyondHv l s)) := by
  obtain ⟨lo, hi, hs⟩ := s
  simp only at *
  have k1 := h1
  have k2 := h2
  rcases h1 with ⟨rfl, rfl⟩ | ⟨g1, o1, c1, rfl, -, -, -⟩
  · rcases h2 with ⟨rfl, rfl⟩ | ⟨g2, o2, c2, rfl, -, -, -⟩
    · exact l7Ask_nn W lo hi k1 k2
    · exact l7Ask_rn W lo hi g2 o2 c2 hs k1 k2 hls
  · rcases h2 with ⟨rfl, rfl⟩ | ⟨g2, o2, c2, rfl, -, -, -⟩
    · exact l7Ask_nr W lo hi g1 o1 c1 l k1 k2 hl
    · exact l7Ask_rr W lo hi g2 o2 c2 hs g1 o1 c1 l k1 k2 hl hls
end Go.Proofs.Ytkpdiojomgiocac
