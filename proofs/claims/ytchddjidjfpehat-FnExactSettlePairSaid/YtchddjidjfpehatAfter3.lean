/-
  'afterStep' of the program, a step's kind at a time.
-/
import Derived.Test.YtchddjidjfpehatAfter0
namespace Go.Proofs.Ytchddjidjfpehat
open Go.RowKit


set_option maxRecDepth 100000 in
set_option maxHeartbeats 4000000 in
theorem after_tick (W : World) (B : Nat) (x y z : Value) (s0 s1 l0 l1 : Int) (ln : List HD)  (h : Own3 W B x y z ⟨[s0, s1], [l0, l1], ln⟩) (hl : ln.length ≤ 12) (g0 : goodS s0 l0 = true) (g1 : goodS s1 l1 = true) :
    Calls Try.prog 52 #[.agg #[x, y, z], .agg #[.int .i64 4, .int .i64 0]] W fun e W' => ∃ x' y' z', e = .returned (.agg #[x', y', z']) ∧ Own3 W' W.heap.size x' y' z' ⟨[tickS s0 l0, tickS s1 l1], [tickL l0, tickL l1], ln⟩ ∧ Below W.heap.size W W' := by
  obtain ⟨a1, c1, rfl⟩ := h.st.shape
  obtain ⟨a2, c2, rfl⟩ := h.lf.shape
  obtain ⟨a3, c3, rfl⟩ := h.ln.shape
  simp only [List.length_cons, List.length_nil, Nat.zero_add, Nat.reduceAdd] at *
  have HR : Hid (∀ W1, Below W.heap.size W W1 → Own3 W1 B (.slice a1 2 c1) (.slice a2 2 c2) (.slice a3 ln.length c3) ⟨[s0, s1], [l0, l1], ln⟩) := fun W1 hb => h.below hb
  have HB3 : Hid (Below W.heap.size W (((W.alloc (.cells #[.slice a1 2 c1, .slice a2 2 c2, .slice a3 ln.length c3] 25)).alloc (.cells #[.int .i64 4, .int .i64 0] 41)).alloc (.cells #[.slice none 0 0, .slice none 0 0, .slice none 0 0] 25))) := (((Below.refl _ W).alloc (Nat.le_refl _) _).alloc (by simp) _).alloc (by simp; omega) _
  have HL : Hid (ln.length ≤ 1048576) := Nat.le_trans hl (by decide)
  clear h
  go_enter Try.func52, Try.ntmps52
  go_wp2_with fail
  refine (copyPair_any _ B _ _ _ ⟨[s0, s1], [l0, l1], ln⟩ (HR.out _ HB3.out) (by simp) (by simp) HL.out).mono ?_
  rintro e w1 ⟨x', y', z', rfl, ho, hb⟩
  obtain ⟨b1, d1, rfl⟩ := ho.st.shape
  obtain ⟨b2, d2, rfl⟩ := ho.lf.shape
  obtain ⟨b3, d3, rfl⟩ := ho.ln.shape
  simp only [List.length_cons, List.length_nil, Nat.zero_add, Nat.reduceAdd] at *
  have HA : Hid (Aft W w1.heap.size (.slice a1 2 c1) (.slice a2 2 c2) (.slice a3 ln.length c3) (.slice b1 2 d1) (.slice b2 2 d2) (.slice b3 ln.length d3) 4 0 ⟨[s0, s1], [l0, l1], ln⟩ (w1.alloc (.cells #[.slice b1 2 d1, .slice b2 2 d2, .slice b3 ln.length d3] 25))) := by
    refine Aft.start ?_ ?_
    · simpa using hb
    · simpa using ho
  clear ho hb HB3
  obtain ⟨t0, t1, t2, -⟩ := HA.out.sx
  go_wp2
  clear t0 t1 t2
  refine wp_loop_rounds 3 ?_
  obtain ⟨p0, p1, p2, p3, -⟩ := HA.out.px
  obtain ⟨n0, n1, n2, n3, nf⟩ := HA.out.nx
  have HD0 : Aft W w1.heap.size (.slice a1 2 c1) (.slice a2 2 c2) (.slice a3 ln.length c3) (.slice b1 2 d1) (.slice b2 2 d2) (.slice b3 ln.length d3) 4 0 ⟨[s0, s1], [l0, l1], ln⟩ (w1.alloc (.cells #[.slice b1 2 d1, .slice b2 2 d2, .slice b3 ln.length d3] 25)).drew := HA.out.drew
  rw [rounds_succ]
  go_wp2
  go_region_held3 (fun w' => w'.cell? ⟨w1.heap.size, 0, none⟩ = some (.slice b1 2 d1) ∧ w'.cell? ⟨w1.heap.size, 1, none⟩ = some (.slice b2 2 d2) ∧ w'.cell? ⟨w1.heap.size, 2, none⟩ = some (.slice b3 ln.length d3) ∧ w'.cell? ⟨W.heap.size, 0, none⟩ = some (.slice a1 2 c1) ∧ w'.cell? ⟨W.heap.size, 1, none⟩ = some (.slice a2 2 c2) ∧ w'.cell? ⟨W.heap.size, 2, none⟩ = some (.slice a3 ln.length c3))
    (first | exact ⟨HZ0.nx.c0, HZ0.nx.c1, HZ0.nx.c2, HZ0.px.c0, HZ0.px.c1, HZ0.px.c2⟩ | exact ⟨HY0.nx.c0, HY0.nx.c1, HY0.nx.c2, HY0.px.c0, HY0.px.c1, HY0.px.c2⟩ | exact ⟨HX0.nx.c0, HX0.nx.c1, HX0.nx.c2, HX0.px.c0, HX0.px.c1, HX0.px.c2⟩ | exact ⟨HD0.nx.c0, HD0.nx.c1, HD0.nx.c2, HD0.px.c0, HD0.px.c1, HD0.px.c2⟩)
    (first
      | (refine step_call (by rfl) 46 #[.agg #[.slice a1 2 c1, .slice a2 2 c2, .slice a3 ln.length c3], .int .i64 0] (by simp [go_sem]) ((sideOf_any _ _ _ _ ⟨[s0, s1], [l0, l1], ln⟩ 0 (HR.out _ HD0.below).reads (by simp) (by simp)).mono ?_); rintro e w2 ⟨rfl, hb2⟩; refine ⟨_, rfl, ?_⟩; have HX0 := HD0.step hb2; simp only [List.getElem_cons_zero])
      | (refine step_call (by rfl) 65 #[.agg #[.int .i64 s0, .int .i64 l0]] (by simp [go_sem]) ((afterTick_any s0 l0 _ g0).mono ?_); rintro e w3 ⟨rfl, hb3⟩; refine ⟨_, rfl, ?_⟩; have HY0 := HX0.step hb3)
      | (refine step_call (by rfl) 64 #[.agg #[.slice b1 2 d1, .slice b2 2 d2, .slice b3 ln.length d3], .int .i64 0, .agg #[.int .i64 (tickS s0 l0), .int .i64 (tickL l0)]] (by simp [go_sem]) ((setSide_any _ _ _ _ _ _ 0 (tickS s0 l0) (tickL l0) HY0.own HY0.lt2 (by simp) (by simp)).mono ?_); rintro e w4 ⟨⟨v, rfl⟩, ho4, hb4, hz4, hk4⟩; refine ⟨_, rfl, ?_⟩; have HZ0 : Aft W w1.heap.size (.slice a1 2 c1) (.slice a2 2 c2) (.slice a3 ln.length c3) (.slice b1 2 d1) (.slice b2 2 d2) (.slice b3 ln.length d3) 4 0 ⟨[tickS s0 l0, s1], [tickL l0, l1], ln⟩ w4 := HY0.wrote ⟨hb4, hz4, hk4⟩ ho4))
  all_goals
    have HA1 : Hid (Aft W w1.heap.size (.slice a1 2 c1) (.slice a2 2 c2) (.slice a3 ln.length c3) (.slice b1 2 d1) (.slice b2 2 d2) (.slice b3 ln.length d3) 4 0 ⟨[tickS s0 l0, s1], [tickL l0, l1], ln⟩ w4) := HZ0
    clear p0 p1 p2 p3 n0 n1 n2 n3 nf HD0 HX0 HY0 HZ0 hb2 hb3 ho4 hb4 hz4 hk4
    go_wp2
    obtain ⟨p0, p1, p2, p3, -⟩ := HA1.out.px
    obtain ⟨n0, n1, n2, n3, nf⟩ := HA1.out.nx
    have HD1 : Aft W w1.heap.size (.slice a1 2 c1) (.slice a2 2 c2) (.slice a3 ln.length c3) (.slice b1 2 d1) (.slice b2 2 d2) (.slice b3 ln.length d3) 4 0 ⟨[tickS s0 l0, s1], [tickL l0, l1], ln⟩ w4.drew := HA1.out.drew
    rw [rounds_succ]
    go_wp2
    go_region_held3 (fun w' => w'.cell? ⟨w1.heap.size, 0, none⟩ = some (.slice b1 2 d1) ∧ w'.cell? ⟨w1.heap.size, 1, none⟩ = some (.slice b2 2 d2) ∧ w'.cell? ⟨w1.heap.size, 2, none⟩ = some (.slice b3 ln.length d3) ∧ w'.cell? ⟨W.heap.size, 0, none⟩ = some (.slice a1 2 c1) ∧ w'.cell? ⟨W.heap.size, 1, none⟩ = some (.slice a2 2 c2) ∧ w'.cell? ⟨W.heap.size, 2, none⟩ = some (.slice a3 ln.length c3))
      (first | exact ⟨HZ1.nx.c0, HZ1.nx.c1, HZ1.nx.c2, HZ1.px.c0, HZ1.px.c1, HZ1.px.c2⟩ | exact ⟨HY1.nx.c0, HY1.nx.c1, HY1.nx.c2, HY1.px.c0, HY1.px.c1, HY1.px.c2⟩ | exact ⟨HX1.nx.c0, HX1.nx.c1, HX1.nx.c2, HX1.px.c0, HX1.px.c1, HX1.px.c2⟩ | exact ⟨HD1.nx.c0, HD1.nx.c1, HD1.nx.c2, HD1.px.c0, HD1.px.c1, HD1.px.c2⟩)
      (first
        | (refine step_call (by rfl) 46 #[.agg #[.slice a1 2 c1, .slice a2 2 c2, .slice a3 ln.length c3], .int .i64 1] (by simp [go_sem]) ((sideOf_any _ _ _ _ ⟨[s0, s1], [l0, l1], ln⟩ 1 (HR.out _ HD1.below).reads (by simp) (by simp)).mono ?_); rintro e w5 ⟨rfl, hb5⟩; refine ⟨_, rfl, ?_⟩; have HX1 := HD1.step hb5; simp only [List.getElem_cons_zero, List.getElem_cons_succ])
        | (refine step_call (by rfl) 65 #[.agg #[.int .i64 s1, .int .i64 l1]] (by simp [go_sem]) ((afterTick_any s1 l1 _ g1).mono ?_); rintro e w6 ⟨rfl, hb6⟩; refine ⟨_, rfl, ?_⟩; have HY1 := HX1.step hb6)
        | (refine step_call (by rfl) 64 #[.agg #[.slice b1 2 d1, .slice b2 2 d2, .slice b3 ln.length d3], .int .i64 1, .agg #[.int .i64 (tickS s1 l1), .int .i64 (tickL l1)]] (by simp [go_sem]) ((setSide_any _ _ _ _ _ _ 1 (tickS s1 l1) (tickL l1) HY1.own HY1.lt2 (by simp) (by simp)).mono ?_); rintro e w7 ⟨⟨v, rfl⟩, ho7, hb7, hz7, hk7⟩; refine ⟨_, rfl, ?_⟩; have HZ1 : Aft W w1.heap.size (.slice a1 2 c1) (.slice a2 2 c2) (.slice a3 ln.length c3) (.slice b1 2 d1) (.slice b2 2 d2) (.slice b3 ln.length d3) 4 0 ⟨[tickS s0 l0, tickS s1 l1], [tickL l0, tickL l1], ln⟩ w7 := HY1.wrote ⟨hb7, hz7, hk7⟩ ho7))
    all_goals
      have HA2 : Hid (Aft W w1.heap.size (.slice a1 2 c1) (.slice a2 2 c2) (.slice a3 ln.length c3) (.slice b1 2 d1) (.slice b2 2 d2) (.slice b3 ln.length d3) 4 0 ⟨[tickS s0 l0, tickS s1 l1], [tickL l0, tickL l1], ln⟩ w7) := HZ1
      clear p0 p1 p2 p3 n0 n1 n2 n3 nf HD1 HX1 HY1 HZ1 hb5 hb6 ho7 hb7 hz7 hk7
      go_wp2
      rw [rounds_succ]
      obtain ⟨p0, p1, p2, p3, -⟩ := HA2.out.px
      obtain ⟨n0, n1, n2, n3, nf⟩ := HA2.out.nx
      obtain ⟨r0, r1, r2, r3, rf⟩ := HA2.out.rx
      go_wp2
      refine bodyPost_ret (v := .agg #[.slice b1 2 d1, .slice b2 2 d2, .slice b3 ln.length d3]) (by simp [results, Try.results52, go_sem, r1, r2, r3]) rfl ⟨_, _, _, rfl, ?_, ?_⟩
      · exact HA2.out.fin.1
      · exact HA2.out.fin.2

end Go.Proofs.Ytchddjidjfpehat
