/-
  'l3Step' of the model, a step's kind at a time.
-/
import Derived.Test.YtchddjidjfpehaaSpStep0
import Derived.Test.YtchddjidjfpehaaGoodSpec
import Derived.Test.YtchddjidjfpehaaJa
import Derived.Deep.RegionLaw
namespace Go.Proofs.Ytchddjidjfpehaa
open Go.RowKit
set_option linter.unusedVariables false

theorem held_set {w : World} {b b' : Nat} {x y z s u : Value} (h : Bx3 w b x y z) (hs : Bx2 w b' s u) {r : Nat} (h1 : r ≠ b) (h2 : r ≠ b') (i j k : Value) :
    (((w.setCell ⟨r, 0, none⟩ i).setCell ⟨r, 1, none⟩ j).setCell ⟨r, 2, none⟩ k).cell? ⟨b, 0, none⟩ = some x ∧ (((w.setCell ⟨r, 0, none⟩ i).setCell ⟨r, 1, none⟩ j).setCell ⟨r, 2, none⟩ k).cell? ⟨b, 1, none⟩ = some y ∧
    (((w.setCell ⟨r, 0, none⟩ i).setCell ⟨r, 1, none⟩ j).setCell ⟨r, 2, none⟩ k).cell? ⟨b, 2, none⟩ = some z ∧ (((w.setCell ⟨r, 0, none⟩ i).setCell ⟨r, 1, none⟩ j).setCell ⟨r, 2, none⟩ k).cell? ⟨b', 1, none⟩ = some u := by
  have e : ∀ c o, r ≠ c → (((w.setCell ⟨r, 0, none⟩ i).setCell ⟨r, 1, none⟩ j).setCell ⟨r, 2, none⟩ k).cell? ⟨c, o, none⟩ = w.cell? ⟨c, o, none⟩ := fun c o hc =>
    World.cell?_of_block ((Below.heap_setCell _ _ _ _ (fun e => hc e.symm)).trans ((Below.heap_setCell _ _ _ _ (fun e => hc e.symm)).trans (Below.heap_setCell _ _ _ _ (fun e => hc e.symm))))
  exact ⟨(e _ _ h1).trans h.c0, (e _ _ h1).trans h.c1, (e _ _ h1).trans h.c2, (e _ _ h2).trans hs.c1⟩

set_option maxRecDepth 100000 in
set_option maxHeartbeats 4000000 in
theorem sp_tick_true (W : World) (B : Nat) (x y z : Value) (s0 s1 l0 l1 : Int) (ln : List HD)  (h : Own3 W B x y z ⟨[s0, s1], [l0, l1], ln⟩) (hB : B ≤ W.heap.size) (hl : ln.length ≤ 12) (g0 : goodS s0 l0 = true) (g1 : goodS s1 l1 = true) :
    Calls Try.prog 56 #[.agg #[x, y, z], .agg #[.int .i64 4, .int .i64 0]] W (StpPost W B x y z ⟨[tickS s0 l0, tickS s1 l1], [tickL l0, tickL l1], ln⟩ true) := by
  obtain ⟨a1, c1, rfl, hc1⟩ := h.st.form
  obtain ⟨a2, c2, rfl, hc2⟩ := h.lf.form
  obtain ⟨r1, rfl, hB1, hr1, -, -⟩ := hc1.resolve_left (by simp)
  obtain ⟨r2, rfl, hB2, hr2, -, -⟩ := hc2.resolve_left (by simp)
  obtain ⟨a3, c3, rfl⟩ := h.ln.shape
  simp only [List.length_cons, List.length_nil, Nat.zero_add, Nat.reduceAdd] at *
  have HT : Hid (Stp W B (.slice (some ⟨r1, 0, none⟩) 2 c1) (.slice (some ⟨r2, 0, none⟩) 2 c2) (.slice a3 ln.length c3) (.slice (some ⟨r1, 0, none⟩) 2 c1) (.slice (some ⟨r2, 0, none⟩) 2 c2) (.slice a3 ln.length c3) 4 0 ⟨[s0, s1], [l0, l1], ln⟩ (((W.alloc (.cells #[.slice (some ⟨r1, 0, none⟩) 2 c1, .slice (some ⟨r2, 0, none⟩) 2 c2, .slice a3 ln.length c3] 40)).alloc (.cells #[.int .i64 4, .int .i64 0] 53)).alloc (.cells #[.slice none 0 0, .slice none 0 0, .slice none 0 0] 40))) := Stp.start 4 0 h hB
  clear h hc1 hc2 hB1 hB2 hr1 hr2
  go_enter Try.func56, Try.ntmps56
  go_wp2
  generalize hw : (((W.alloc (.cells #[.slice (some ⟨r1, 0, none⟩) 2 c1, .slice (some ⟨r2, 0, none⟩) 2 c2, .slice a3 ln.length c3] 40)).alloc (.cells #[.int .i64 4, .int .i64 0] 53)).alloc (.cells #[.slice none 0 0, .slice none 0 0, .slice none 0 0] 40)) = w2 at *
  clear hw
  have HDr : Stp W B (.slice (some ⟨r1, 0, none⟩) 2 c1) (.slice (some ⟨r2, 0, none⟩) 2 c2) (.slice a3 ln.length c3) (.slice (some ⟨r1, 0, none⟩) 2 c1) (.slice (some ⟨r2, 0, none⟩) 2 c2) (.slice a3 ln.length c3) 4 0 ⟨[s0, s1], [l0, l1], ln⟩ w2.drew := HT.out.drew
  obtain ⟨p0, p1, p2, p3, pf⟩ := HT.out.px
  obtain ⟨t0, t1, t2, -⟩ := HT.out.sx
  obtain ⟨y0, y1, y2, y3, yf⟩ := HT.out.rx
  go_region_held3 (fun w' => w'.cell? ⟨W.heap.size, 0, none⟩ = some (.slice (some ⟨r1, 0, none⟩) 2 c1) ∧ w'.cell? ⟨W.heap.size, 1, none⟩ = some (.slice (some ⟨r2, 0, none⟩) 2 c2) ∧ w'.cell? ⟨W.heap.size, 2, none⟩ = some (.slice a3 ln.length c3) ∧ w'.cell? ⟨W.heap.size + 1, 1, none⟩ = some (.int .i64 0))
    (first | with_reducible exact ⟨HZ.px.c0, HZ.px.c1, HZ.px.c2, HZ.sx.c1⟩ | with_reducible exact ⟨HDr.px.c0, HDr.px.c1, HDr.px.c2, HDr.sx.c1⟩ | exact held_set (r := W.heap.size + 1 + 1) HZ.px HZ.sx (by omega) (by omega) _ _ _ | fail)
    (first
      | (refine step_call (by rfl) 83 #[.agg #[.slice (some ⟨r1, 0, none⟩) 2 c1, .slice (some ⟨r2, 0, none⟩) 2 c2, .slice a3 ln.length c3]] (by simp [go_sem]) ((l3Tick_any _ B _ _ _ s0 s1 l0 l1 ln HDr.own HDr.base g0 g1).mono ?_); rintro e w3 ⟨rfl, ho3, hw3⟩; refine ⟨_, rfl, ?_⟩; have HZ := HDr.wrote hw3 ho3; obtain ⟨v0, v1, v2, v3, vf⟩ := HZ.rx)
      | fail)
  all_goals
    have HF : Hid (Stp W B (.slice (some ⟨r1, 0, none⟩) 2 c1) (.slice (some ⟨r2, 0, none⟩) 2 c2) (.slice a3 ln.length c3) (.slice (some ⟨r1, 0, none⟩) 2 c1) (.slice (some ⟨r2, 0, none⟩) 2 c2) (.slice a3 ln.length c3) 4 0 ⟨[tickS s0 l0, tickS s1 l1], [tickL l0, tickL l1], ln⟩ w3) := HZ
    clear p0 p1 p2 p3 pf t0 t1 t2 HDr HZ ho3 hw3
    clear y0 y1 y2 y3 yf
    obtain ⟨y0, y1, y2, y3, yf⟩ := HF.out.rx
    go_wp2
    refine bodyPost_ret (v := .tuple #[.agg #[.slice (some ⟨r1, 0, none⟩) 2 c1, .slice (some ⟨r2, 0, none⟩) 2 c2, .slice a3 ln.length c3], .bool true]) (by simp [results, Try.results56, go_sem, y1, y2, y3]) rfl ?_
    exact HF.out.fin true

set_option maxRecDepth 100000 in
set_option maxHeartbeats 4000000 in
theorem sp_tick_false (W : World) (B : Nat) (x y z : Value) (s0 s1 l0 l1 : Int) (ln : List HD) (k : Int) (h : Own3 W B x y z ⟨[s0, s1], [l0, l1], ln⟩) (hB : B ≤ W.heap.size) (hl : ln.length ≤ 12) (hk : ¬ k = 0) (g0 : goodS s0 l0 = true) (g1 : goodS s1 l1 = true) :
    Calls Try.prog 56 #[.agg #[x, y, z], .agg #[.int .i64 4, .int .i64 k]] W (StpPost W B x y z ⟨[tickS s0 l0, tickS s1 l1], [tickL l0, tickL l1], ln⟩ false) := by
  obtain ⟨a1, c1, rfl, hc1⟩ := h.st.form
  obtain ⟨a2, c2, rfl, hc2⟩ := h.lf.form
  obtain ⟨r1, rfl, hB1, hr1, -, -⟩ := hc1.resolve_left (by simp)
  obtain ⟨r2, rfl, hB2, hr2, -, -⟩ := hc2.resolve_left (by simp)
  obtain ⟨a3, c3, rfl⟩ := h.ln.shape
  simp only [List.length_cons, List.length_nil, Nat.zero_add, Nat.reduceAdd] at *
  have HT : Hid (Stp W B (.slice (some ⟨r1, 0, none⟩) 2 c1) (.slice (some ⟨r2, 0, none⟩) 2 c2) (.slice a3 ln.length c3) (.slice (some ⟨r1, 0, none⟩) 2 c1) (.slice (some ⟨r2, 0, none⟩) 2 c2) (.slice a3 ln.length c3) 4 k ⟨[s0, s1], [l0, l1], ln⟩ (((W.alloc (.cells #[.slice (some ⟨r1, 0, none⟩) 2 c1, .slice (some ⟨r2, 0, none⟩) 2 c2, .slice a3 ln.length c3] 40)).alloc (.cells #[.int .i64 4, .int .i64 k] 53)).alloc (.cells #[.slice none 0 0, .slice none 0 0, .slice none 0 0] 40))) := Stp.start 4 k h hB
  clear h hc1 hc2 hB1 hB2 hr1 hr2
  have dk : (k == 0) = false := beq_eq_false_iff_ne.2 hk
  go_enter Try.func56, Try.ntmps56
  go_wp2
  generalize hw : (((W.alloc (.cells #[.slice (some ⟨r1, 0, none⟩) 2 c1, .slice (some ⟨r2, 0, none⟩) 2 c2, .slice a3 ln.length c3] 40)).alloc (.cells #[.int .i64 4, .int .i64 k] 53)).alloc (.cells #[.slice none 0 0, .slice none 0 0, .slice none 0 0] 40)) = w2 at *
  clear hw
  have HDr : Stp W B (.slice (some ⟨r1, 0, none⟩) 2 c1) (.slice (some ⟨r2, 0, none⟩) 2 c2) (.slice a3 ln.length c3) (.slice (some ⟨r1, 0, none⟩) 2 c1) (.slice (some ⟨r2, 0, none⟩) 2 c2) (.slice a3 ln.length c3) 4 k ⟨[s0, s1], [l0, l1], ln⟩ w2.drew := HT.out.drew
  obtain ⟨p0, p1, p2, p3, pf⟩ := HT.out.px
  obtain ⟨t0, t1, t2, -⟩ := HT.out.sx
  obtain ⟨y0, y1, y2, y3, yf⟩ := HT.out.rx
  go_region_held3 (fun w' => w'.cell? ⟨W.heap.size, 0, none⟩ = some (.slice (some ⟨r1, 0, none⟩) 2 c1) ∧ w'.cell? ⟨W.heap.size, 1, none⟩ = some (.slice (some ⟨r2, 0, none⟩) 2 c2) ∧ w'.cell? ⟨W.heap.size, 2, none⟩ = some (.slice a3 ln.length c3) ∧ w'.cell? ⟨W.heap.size + 1, 1, none⟩ = some (.int .i64 k))
    (first | with_reducible exact ⟨HZ.px.c0, HZ.px.c1, HZ.px.c2, HZ.sx.c1⟩ | with_reducible exact ⟨HDr.px.c0, HDr.px.c1, HDr.px.c2, HDr.sx.c1⟩ | exact held_set (r := W.heap.size + 1 + 1) HZ.px HZ.sx (by omega) (by omega) _ _ _ | fail)
    (first
      | (refine step_call (by rfl) 83 #[.agg #[.slice (some ⟨r1, 0, none⟩) 2 c1, .slice (some ⟨r2, 0, none⟩) 2 c2, .slice a3 ln.length c3]] (by simp [go_sem]) ((l3Tick_any _ B _ _ _ s0 s1 l0 l1 ln HDr.own HDr.base g0 g1).mono ?_); rintro e w3 ⟨rfl, ho3, hw3⟩; refine ⟨_, rfl, ?_⟩; have HZ := HDr.wrote hw3 ho3; obtain ⟨v0, v1, v2, v3, vf⟩ := HZ.rx)
      | fail)
  all_goals
    have HF : Hid (Stp W B (.slice (some ⟨r1, 0, none⟩) 2 c1) (.slice (some ⟨r2, 0, none⟩) 2 c2) (.slice a3 ln.length c3) (.slice (some ⟨r1, 0, none⟩) 2 c1) (.slice (some ⟨r2, 0, none⟩) 2 c2) (.slice a3 ln.length c3) 4 k ⟨[tickS s0 l0, tickS s1 l1], [tickL l0, tickL l1], ln⟩ w3) := HZ
    clear p0 p1 p2 p3 pf t0 t1 t2 HDr HZ ho3 hw3
    clear y0 y1 y2 y3 yf
    obtain ⟨y0, y1, y2, y3, yf⟩ := HF.out.rx
    go_wp2
    refine bodyPost_ret (v := .tuple #[.agg #[.slice (some ⟨r1, 0, none⟩) 2 c1, .slice (some ⟨r2, 0, none⟩) 2 c2, .slice a3 ln.length c3], .bool false]) (by simp [results, Try.results56, go_sem, y1, y2, y3]) rfl ?_
    exact HF.out.fin false

end Go.Proofs.Ytchddjidjfpehaa
