/-
  'afterStep' of the program, a step's kind at a time.
-/
import Derived.Test.YtchddjidjfpehatAfter0
namespace Go.Proofs.Ytchddjidjfpehat
open Go.RowKit


set_option maxRecDepth 100000 in
set_option maxHeartbeats 4000000 in
theorem after_say_0_false (W : World) (B : Nat) (x y z : Value) (s1 l1 : Int) (ln : List HD)  (h : Own3 W B x y z ⟨[0, s1], [0, l1], ln⟩) (hl : ln.length ≤ 12) (hc : ln.length < 12) :
    Calls Try.prog 52 #[.agg #[x, y, z], .agg #[.int .i64 1, .int .i64 0]] W fun e W' => ∃ x' y' z', e = .returned (.agg #[x', y', z']) ∧ Own3 W' W.heap.size x' y' z' ⟨[0, s1], [0, l1], ln ++ [HD.mk 0 false]⟩ ∧ Below W.heap.size W W' := by
  obtain ⟨a1, c1, rfl⟩ := h.st.shape
  obtain ⟨a2, c2, rfl⟩ := h.lf.shape
  obtain ⟨ln', hln'⟩ : ∃ ln', ln' = ln ++ [HD.mk 0 false] := ⟨_, rfl⟩
  rw [← hln']
  have HLN : Hid (ln' = ln ++ [HD.mk 0 false]) := hln'
  clear hln'
  obtain ⟨a3, c3, rfl⟩ := h.ln.shape
  simp only [List.length_cons, List.length_nil, Nat.zero_add, Nat.reduceAdd] at *
  have HR : Hid (∀ W1, Below W.heap.size W W1 → Own3 W1 B (.slice a1 2 c1) (.slice a2 2 c2) (.slice a3 ln.length c3) ⟨[0, s1], [0, l1], ln⟩) := fun W1 hb => h.below hb
  have HB3 : Hid (Below W.heap.size W (((W.alloc (.cells #[.slice a1 2 c1, .slice a2 2 c2, .slice a3 ln.length c3] 25)).alloc (.cells #[.int .i64 1, .int .i64 0] 41)).alloc (.cells #[.slice none 0 0, .slice none 0 0, .slice none 0 0] 25))) := (((Below.refl _ W).alloc (Nat.le_refl _) _).alloc (by simp) _).alloc (by simp; omega) _
  have HL : Hid (ln.length ≤ 1048576) := Nat.le_trans hl (by decide)
  clear h
  go_enter Try.func52, Try.ntmps52
  go_wp2_with fail
  refine (copyPair_any _ B _ _ _ ⟨[0, s1], [0, l1], ln⟩ (HR.out _ HB3.out) (by simp) (by simp) HL.out).mono ?_
  rintro e w1 ⟨x', y', z', rfl, ho, hb⟩
  obtain ⟨b1, d1, rfl⟩ := ho.st.shape
  obtain ⟨b2, d2, rfl⟩ := ho.lf.shape
  obtain ⟨b3, d3, rfl⟩ := ho.ln.shape
  simp only [List.length_cons, List.length_nil, Nat.zero_add, Nat.reduceAdd] at *
  have HA : Hid (Aft W w1.heap.size (.slice a1 2 c1) (.slice a2 2 c2) (.slice a3 ln.length c3) (.slice b1 2 d1) (.slice b2 2 d2) (.slice b3 ln.length d3) 1 0 ⟨[0, s1], [0, l1], ln⟩ (w1.alloc (.cells #[.slice b1 2 d1, .slice b2 2 d2, .slice b3 ln.length d3] 25))) := by
    refine Aft.start ?_ ?_
    · simpa using hb
    · simpa using ho
  clear ho hb HB3
  obtain ⟨p0, p1, p2, p3, -⟩ := HA.out.px
  obtain ⟨t0, t1, t2, -⟩ := HA.out.sx
  obtain ⟨n0, n1, n2, n3, nf⟩ := HA.out.nx
  go_wp2_with fail
  refine (sideOf_any _ _ _ _ ⟨[0, s1], [0, l1], ln⟩ 0 (HR.out _ HA.out.below).reads (by simp) (by simp)).mono ?_
  rintro e w2 ⟨rfl, hb2⟩
  have HA2 : Hid (Aft W w1.heap.size (.slice a1 2 c1) (.slice a2 2 c2) (.slice a3 ln.length c3) (.slice b1 2 d1) (.slice b2 2 d2) (.slice b3 ln.length d3) 1 0 ⟨[0, s1], [0, l1], ln⟩ w2) := HA.out.step hb2
  clear hb2 HA p0 p1 p2 p3 t0 t1 t2 n0 n1 n2 n3 nf
  simp only [List.getElem_cons_zero]
  go_wp2_with fail
  refine (silentSide_any _).mono ?_
  rintro e w3 ⟨rfl, hb3⟩
  have HA3 : Hid (Aft W w1.heap.size (.slice a1 2 c1) (.slice a2 2 c2) (.slice a3 ln.length c3) (.slice b1 2 d1) (.slice b2 2 d2) (.slice b3 ln.length d3) 1 0 ⟨[0, s1], [0, l1], ln⟩ w3) := HA2.out.step hb3
  clear hb3 HA2
  have HN : Hid (Aft W w1.heap.size (.slice a1 2 c1) (.slice a2 2 c2) (.slice a3 ln.length c3) (.slice b1 2 d1) (.slice b2 2 d2) (.slice b3 ln.length d3) 1 0 ⟨[0, s1], [0, l1], ln⟩ (w3.alloc (.cells #[.int .i64 0, .bool false] 66))) := HA3.out.step ((Below.refl _ w3).alloc (Nat.le_refl _) _)
  have HC : Hid (∀ ty, ∃ v' w', (Builtin.append_ #[23, 23] ty #[.slice b3 ln.length d3, .slice (some ⟨w3.heap.size, 0, none⟩) 1 1]).run Try.prog (w3.alloc (.cells #[.int .i64 0, .bool false] 66)) = .ok v' w' ∧ GrewH (w3.alloc (.cells #[.int .i64 0, .bool false] 66)) (W.heap.size + 1 + 1 + 1) (.slice b3 ln.length d3) ln' v' w') := fun ty => by
    rw [HLN.out]
    exact run_catH _ _ _ ln HN.out.own.ln _ [HD.mk 0 false] (one_hello w3 (HD.mk 0 false)) (by simp; omega) HN.out.lt2 ty
  obtain ⟨p0, p1, p2, p3, -⟩ := HA3.out.px
  obtain ⟨t0, t1, t2, -⟩ := HA3.out.sx
  obtain ⟨n0, n1, n2, n3, nf⟩ := HA3.out.nx
  go_wp2_with (at_builtin; refine list_cat (by rfl) (.tmp 27) (.tmp 32) 23 (by rfl) (.slice b3 ln.length d3) (.slice (some ⟨w3.heap.size, 0, none⟩) 1 1) (by rfl) (by rfl) _ HC.out ?_; intro v4 w4 hg4; obtain ⟨b4, d4, rfl⟩ := hg4.own.shape; have HF : Hid (Aft W w1.heap.size (.slice a1 2 c1) (.slice a2 2 c2) (.slice a3 ln.length c3) (.slice b1 2 d1) (.slice b2 2 d2) (.slice b4 ln'.length d4) 1 0 ⟨[0, s1], [0, l1], ln'⟩ (w4.setCell ⟨w1.heap.size, 2, none⟩ (.slice b4 ln'.length d4))) := say_line HN.out hg4; obtain ⟨u0, u1, u2, u3, uf⟩ := say_box HN.out hg4; obtain ⟨m0, m1, m2, m3, -⟩ := HF.out.nx; obtain ⟨r0, r1, r2, r3, rf⟩ := HF.out.rx; clear hg4)
  refine bodyPost_ret (v := .agg #[.slice b1 2 d1, .slice b2 2 d2, .slice b4 ln'.length d4]) (by simp [results, Try.results52, go_sem, r1, r2, r3]) rfl ⟨_, _, _, rfl, ?_, ?_⟩
  · exact HF.out.fin.1
  · exact HF.out.fin.2

set_option maxRecDepth 100000 in
set_option maxHeartbeats 4000000 in
theorem after_say_0_true (W : World) (B : Nat) (x y z : Value) (s0 s1 l0 l1 : Int) (ln : List HD)  (h : Own3 W B x y z ⟨[s0, s1], [l0, l1], ln⟩) (hl : ln.length ≤ 12) (hc : ln.length < 12) (hs : ¬ s0 = 0) :
    Calls Try.prog 52 #[.agg #[x, y, z], .agg #[.int .i64 1, .int .i64 0]] W fun e W' => ∃ x' y' z', e = .returned (.agg #[x', y', z']) ∧ Own3 W' W.heap.size x' y' z' ⟨[s0, s1], [l0, l1], ln ++ [HD.mk 0 true]⟩ ∧ Below W.heap.size W W' := by
  obtain ⟨a1, c1, rfl⟩ := h.st.shape
  obtain ⟨a2, c2, rfl⟩ := h.lf.shape
  obtain ⟨ln', hln'⟩ : ∃ ln', ln' = ln ++ [HD.mk 0 true] := ⟨_, rfl⟩
  rw [← hln']
  have HLN : Hid (ln' = ln ++ [HD.mk 0 true]) := hln'
  clear hln'
  obtain ⟨a3, c3, rfl⟩ := h.ln.shape
  simp only [List.length_cons, List.length_nil, Nat.zero_add, Nat.reduceAdd] at *
  have HR : Hid (∀ W1, Below W.heap.size W W1 → Own3 W1 B (.slice a1 2 c1) (.slice a2 2 c2) (.slice a3 ln.length c3) ⟨[s0, s1], [l0, l1], ln⟩) := fun W1 hb => h.below hb
  have HB3 : Hid (Below W.heap.size W (((W.alloc (.cells #[.slice a1 2 c1, .slice a2 2 c2, .slice a3 ln.length c3] 25)).alloc (.cells #[.int .i64 1, .int .i64 0] 41)).alloc (.cells #[.slice none 0 0, .slice none 0 0, .slice none 0 0] 25))) := (((Below.refl _ W).alloc (Nat.le_refl _) _).alloc (by simp) _).alloc (by simp; omega) _
  have HL : Hid (ln.length ≤ 1048576) := Nat.le_trans hl (by decide)
  clear h
  go_enter Try.func52, Try.ntmps52
  go_wp2_with fail
  refine (copyPair_any _ B _ _ _ ⟨[s0, s1], [l0, l1], ln⟩ (HR.out _ HB3.out) (by simp) (by simp) HL.out).mono ?_
  rintro e w1 ⟨x', y', z', rfl, ho, hb⟩
  obtain ⟨b1, d1, rfl⟩ := ho.st.shape
  obtain ⟨b2, d2, rfl⟩ := ho.lf.shape
  obtain ⟨b3, d3, rfl⟩ := ho.ln.shape
  simp only [List.length_cons, List.length_nil, Nat.zero_add, Nat.reduceAdd] at *
  have HA : Hid (Aft W w1.heap.size (.slice a1 2 c1) (.slice a2 2 c2) (.slice a3 ln.length c3) (.slice b1 2 d1) (.slice b2 2 d2) (.slice b3 ln.length d3) 1 0 ⟨[s0, s1], [l0, l1], ln⟩ (w1.alloc (.cells #[.slice b1 2 d1, .slice b2 2 d2, .slice b3 ln.length d3] 25))) := by
    refine Aft.start ?_ ?_
    · simpa using hb
    · simpa using ho
  clear ho hb HB3
  obtain ⟨p0, p1, p2, p3, -⟩ := HA.out.px
  obtain ⟨t0, t1, t2, -⟩ := HA.out.sx
  obtain ⟨n0, n1, n2, n3, nf⟩ := HA.out.nx
  go_wp2_with fail
  refine (sideOf_any _ _ _ _ ⟨[s0, s1], [l0, l1], ln⟩ 0 (HR.out _ HA.out.below).reads (by simp) (by simp)).mono ?_
  rintro e w2 ⟨rfl, hb2⟩
  have HA2 : Hid (Aft W w1.heap.size (.slice a1 2 c1) (.slice a2 2 c2) (.slice a3 ln.length c3) (.slice b1 2 d1) (.slice b2 2 d2) (.slice b3 ln.length d3) 1 0 ⟨[s0, s1], [l0, l1], ln⟩ w2) := HA.out.step hb2
  clear hb2 HA p0 p1 p2 p3 t0 t1 t2 n0 n1 n2 n3 nf
  simp only [List.getElem_cons_zero]
  go_wp2_with fail
  refine (silentSide_any _).mono ?_
  rintro e w3 ⟨rfl, hb3⟩
  have HA3 : Hid (Aft W w1.heap.size (.slice a1 2 c1) (.slice a2 2 c2) (.slice a3 ln.length c3) (.slice b1 2 d1) (.slice b2 2 d2) (.slice b3 ln.length d3) 1 0 ⟨[s0, s1], [l0, l1], ln⟩ w3) := HA2.out.step hb3
  clear hb3 HA2
  have HN : Hid (Aft W w1.heap.size (.slice a1 2 c1) (.slice a2 2 c2) (.slice a3 ln.length c3) (.slice b1 2 d1) (.slice b2 2 d2) (.slice b3 ln.length d3) 1 0 ⟨[s0, s1], [l0, l1], ln⟩ (w3.alloc (.cells #[.int .i64 0, .bool true] 66))) := HA3.out.step ((Below.refl _ w3).alloc (Nat.le_refl _) _)
  have HC : Hid (∀ ty, ∃ v' w', (Builtin.append_ #[23, 23] ty #[.slice b3 ln.length d3, .slice (some ⟨w3.heap.size, 0, none⟩) 1 1]).run Try.prog (w3.alloc (.cells #[.int .i64 0, .bool true] 66)) = .ok v' w' ∧ GrewH (w3.alloc (.cells #[.int .i64 0, .bool true] 66)) (W.heap.size + 1 + 1 + 1) (.slice b3 ln.length d3) ln' v' w') := fun ty => by
    rw [HLN.out]
    exact run_catH _ _ _ ln HN.out.own.ln _ [HD.mk 0 true] (one_hello w3 (HD.mk 0 true)) (by simp; omega) HN.out.lt2 ty
  obtain ⟨p0, p1, p2, p3, -⟩ := HA3.out.px
  obtain ⟨t0, t1, t2, -⟩ := HA3.out.sx
  obtain ⟨n0, n1, n2, n3, nf⟩ := HA3.out.nx
  go_wp2_with (at_builtin; refine list_cat (by rfl) (.tmp 27) (.tmp 32) 23 (by rfl) (.slice b3 ln.length d3) (.slice (some ⟨w3.heap.size, 0, none⟩) 1 1) (by rfl) (by rfl) _ HC.out ?_; intro v4 w4 hg4; obtain ⟨b4, d4, rfl⟩ := hg4.own.shape; have HF : Hid (Aft W w1.heap.size (.slice a1 2 c1) (.slice a2 2 c2) (.slice a3 ln.length c3) (.slice b1 2 d1) (.slice b2 2 d2) (.slice b4 ln'.length d4) 1 0 ⟨[s0, s1], [l0, l1], ln'⟩ (w4.setCell ⟨w1.heap.size, 2, none⟩ (.slice b4 ln'.length d4))) := say_line HN.out hg4; obtain ⟨u0, u1, u2, u3, uf⟩ := say_box HN.out hg4; obtain ⟨m0, m1, m2, m3, -⟩ := HF.out.nx; obtain ⟨r0, r1, r2, r3, rf⟩ := HF.out.rx; clear hg4)
  refine bodyPost_ret (v := .agg #[.slice b1 2 d1, .slice b2 2 d2, .slice b4 ln'.length d4]) (by simp [results, Try.results52, go_sem, r1, r2, r3]) rfl ⟨_, _, _, rfl, ?_, ?_⟩
  · exact HF.out.fin.1
  · exact HF.out.fin.2

set_option maxRecDepth 100000 in
set_option maxHeartbeats 4000000 in
theorem after_say_1_false (W : World) (B : Nat) (x y z : Value) (s0 l0 : Int) (ln : List HD)  (h : Own3 W B x y z ⟨[s0, 0], [l0, 0], ln⟩) (hl : ln.length ≤ 12) (hc : ln.length < 12) :
    Calls Try.prog 52 #[.agg #[x, y, z], .agg #[.int .i64 1, .int .i64 1]] W fun e W' => ∃ x' y' z', e = .returned (.agg #[x', y', z']) ∧ Own3 W' W.heap.size x' y' z' ⟨[s0, 0], [l0, 0], ln ++ [HD.mk 1 false]⟩ ∧ Below W.heap.size W W' := by
  obtain ⟨a1, c1, rfl⟩ := h.st.shape
  obtain ⟨a2, c2, rfl⟩ := h.lf.shape
  obtain ⟨ln', hln'⟩ : ∃ ln', ln' = ln ++ [HD.mk 1 false] := ⟨_, rfl⟩
  rw [← hln']
  have HLN : Hid (ln' = ln ++ [HD.mk 1 false]) := hln'
  clear hln'
  obtain ⟨a3, c3, rfl⟩ := h.ln.shape
  simp only [List.length_cons, List.length_nil, Nat.zero_add, Nat.reduceAdd] at *
  have HR : Hid (∀ W1, Below W.heap.size W W1 → Own3 W1 B (.slice a1 2 c1) (.slice a2 2 c2) (.slice a3 ln.length c3) ⟨[s0, 0], [l0, 0], ln⟩) := fun W1 hb => h.below hb
  have HB3 : Hid (Below W.heap.size W (((W.alloc (.cells #[.slice a1 2 c1, .slice a2 2 c2, .slice a3 ln.length c3] 25)).alloc (.cells #[.int .i64 1, .int .i64 1] 41)).alloc (.cells #[.slice none 0 0, .slice none 0 0, .slice none 0 0] 25))) := (((Below.refl _ W).alloc (Nat.le_refl _) _).alloc (by simp) _).alloc (by simp; omega) _
  have HL : Hid (ln.length ≤ 1048576) := Nat.le_trans hl (by decide)
  clear h
  go_enter Try.func52, Try.ntmps52
  go_wp2_with fail
  refine (copyPair_any _ B _ _ _ ⟨[s0, 0], [l0, 0], ln⟩ (HR.out _ HB3.out) (by simp) (by simp) HL.out).mono ?_
  rintro e w1 ⟨x', y', z', rfl, ho, hb⟩
  obtain ⟨b1, d1, rfl⟩ := ho.st.shape
  obtain ⟨b2, d2, rfl⟩ := ho.lf.shape
  obtain ⟨b3, d3, rfl⟩ := ho.ln.shape
  simp only [List.length_cons, List.length_nil, Nat.zero_add, Nat.reduceAdd] at *
  have HA : Hid (Aft W w1.heap.size (.slice a1 2 c1) (.slice a2 2 c2) (.slice a3 ln.length c3) (.slice b1 2 d1) (.slice b2 2 d2) (.slice b3 ln.length d3) 1 1 ⟨[s0, 0], [l0, 0], ln⟩ (w1.alloc (.cells #[.slice b1 2 d1, .slice b2 2 d2, .slice b3 ln.length d3] 25))) := by
    refine Aft.start ?_ ?_
    · simpa using hb
    · simpa using ho
  clear ho hb HB3
  obtain ⟨p0, p1, p2, p3, -⟩ := HA.out.px
  obtain ⟨t0, t1, t2, -⟩ := HA.out.sx
  obtain ⟨n0, n1, n2, n3, nf⟩ := HA.out.nx
  go_wp2_with fail
  refine (sideOf_any _ _ _ _ ⟨[s0, 0], [l0, 0], ln⟩ 1 (HR.out _ HA.out.below).reads (by simp) (by simp)).mono ?_
  rintro e w2 ⟨rfl, hb2⟩
  have HA2 : Hid (Aft W w1.heap.size (.slice a1 2 c1) (.slice a2 2 c2) (.slice a3 ln.length c3) (.slice b1 2 d1) (.slice b2 2 d2) (.slice b3 ln.length d3) 1 1 ⟨[s0, 0], [l0, 0], ln⟩ w2) := HA.out.step hb2
  clear hb2 HA p0 p1 p2 p3 t0 t1 t2 n0 n1 n2 n3 nf
  simp only [List.getElem_cons_zero, List.getElem_cons_succ]
  go_wp2_with fail
  refine (silentSide_any _).mono ?_
  rintro e w3 ⟨rfl, hb3⟩
  have HA3 : Hid (Aft W w1.heap.size (.slice a1 2 c1) (.slice a2 2 c2) (.slice a3 ln.length c3) (.slice b1 2 d1) (.slice b2 2 d2) (.slice b3 ln.length d3) 1 1 ⟨[s0, 0], [l0, 0], ln⟩ w3) := HA2.out.step hb3
  clear hb3 HA2
  have HN : Hid (Aft W w1.heap.size (.slice a1 2 c1) (.slice a2 2 c2) (.slice a3 ln.length c3) (.slice b1 2 d1) (.slice b2 2 d2) (.slice b3 ln.length d3) 1 1 ⟨[s0, 0], [l0, 0], ln⟩ (w3.alloc (.cells #[.int .i64 1, .bool false] 66))) := HA3.out.step ((Below.refl _ w3).alloc (Nat.le_refl _) _)
  have HC : Hid (∀ ty, ∃ v' w', (Builtin.append_ #[23, 23] ty #[.slice b3 ln.length d3, .slice (some ⟨w3.heap.size, 0, none⟩) 1 1]).run Try.prog (w3.alloc (.cells #[.int .i64 1, .bool false] 66)) = .ok v' w' ∧ GrewH (w3.alloc (.cells #[.int .i64 1, .bool false] 66)) (W.heap.size + 1 + 1 + 1) (.slice b3 ln.length d3) ln' v' w') := fun ty => by
    rw [HLN.out]
    exact run_catH _ _ _ ln HN.out.own.ln _ [HD.mk 1 false] (one_hello w3 (HD.mk 1 false)) (by simp; omega) HN.out.lt2 ty
  obtain ⟨p0, p1, p2, p3, -⟩ := HA3.out.px
  obtain ⟨t0, t1, t2, -⟩ := HA3.out.sx
  obtain ⟨n0, n1, n2, n3, nf⟩ := HA3.out.nx
  go_wp2_with (at_builtin; refine list_cat (by rfl) (.tmp 27) (.tmp 32) 23 (by rfl) (.slice b3 ln.length d3) (.slice (some ⟨w3.heap.size, 0, none⟩) 1 1) (by rfl) (by rfl) _ HC.out ?_; intro v4 w4 hg4; obtain ⟨b4, d4, rfl⟩ := hg4.own.shape; have HF : Hid (Aft W w1.heap.size (.slice a1 2 c1) (.slice a2 2 c2) (.slice a3 ln.length c3) (.slice b1 2 d1) (.slice b2 2 d2) (.slice b4 ln'.length d4) 1 1 ⟨[s0, 0], [l0, 0], ln'⟩ (w4.setCell ⟨w1.heap.size, 2, none⟩ (.slice b4 ln'.length d4))) := say_line HN.out hg4; obtain ⟨u0, u1, u2, u3, uf⟩ := say_box HN.out hg4; obtain ⟨m0, m1, m2, m3, -⟩ := HF.out.nx; obtain ⟨r0, r1, r2, r3, rf⟩ := HF.out.rx; clear hg4)
  refine bodyPost_ret (v := .agg #[.slice b1 2 d1, .slice b2 2 d2, .slice b4 ln'.length d4]) (by simp [results, Try.results52, go_sem, r1, r2, r3]) rfl ⟨_, _, _, rfl, ?_, ?_⟩
  · exact HF.out.fin.1
  · exact HF.out.fin.2

set_option maxRecDepth 100000 in
set_option maxHeartbeats 4000000 in
theorem after_say_1_true (W : World) (B : Nat) (x y z : Value) (s0 s1 l0 l1 : Int) (ln : List HD)  (h : Own3 W B x y z ⟨[s0, s1], [l0, l1], ln⟩) (hl : ln.length ≤ 12) (hc : ln.length < 12) (hs : ¬ s1 = 0) :
    Calls Try.prog 52 #[.agg #[x, y, z], .agg #[.int .i64 1, .int .i64 1]] W fun e W' => ∃ x' y' z', e = .returned (.agg #[x', y', z']) ∧ Own3 W' W.heap.size x' y' z' ⟨[s0, s1], [l0, l1], ln ++ [HD.mk 1 true]⟩ ∧ Below W.heap.size W W' := by
  obtain ⟨a1, c1, rfl⟩ := h.st.shape
  obtain ⟨a2, c2, rfl⟩ := h.lf.shape
  obtain ⟨ln', hln'⟩ : ∃ ln', ln' = ln ++ [HD.mk 1 true] := ⟨_, rfl⟩
  rw [← hln']
  have HLN : Hid (ln' = ln ++ [HD.mk 1 true]) := hln'
  clear hln'
  obtain ⟨a3, c3, rfl⟩ := h.ln.shape
  simp only [List.length_cons, List.length_nil, Nat.zero_add, Nat.reduceAdd] at *
  have HR : Hid (∀ W1, Below W.heap.size W W1 → Own3 W1 B (.slice a1 2 c1) (.slice a2 2 c2) (.slice a3 ln.length c3) ⟨[s0, s1], [l0, l1], ln⟩) := fun W1 hb => h.below hb
  have HB3 : Hid (Below W.heap.size W (((W.alloc (.cells #[.slice a1 2 c1, .slice a2 2 c2, .slice a3 ln.length c3] 25)).alloc (.cells #[.int .i64 1, .int .i64 1] 41)).alloc (.cells #[.slice none 0 0, .slice none 0 0, .slice none 0 0] 25))) := (((Below.refl _ W).alloc (Nat.le_refl _) _).alloc (by simp) _).alloc (by simp; omega) _
  have HL : Hid (ln.length ≤ 1048576) := Nat.le_trans hl (by decide)
  clear h
  go_enter Try.func52, Try.ntmps52
  go_wp2_with fail
  refine (copyPair_any _ B _ _ _ ⟨[s0, s1], [l0, l1], ln⟩ (HR.out _ HB3.out) (by simp) (by simp) HL.out).mono ?_
  rintro e w1 ⟨x', y', z', rfl, ho, hb⟩
  obtain ⟨b1, d1, rfl⟩ := ho.st.shape
  obtain ⟨b2, d2, rfl⟩ := ho.lf.shape
  obtain ⟨b3, d3, rfl⟩ := ho.ln.shape
  simp only [List.length_cons, List.length_nil, Nat.zero_add, Nat.reduceAdd] at *
  have HA : Hid (Aft W w1.heap.size (.slice a1 2 c1) (.slice a2 2 c2) (.slice a3 ln.length c3) (.slice b1 2 d1) (.slice b2 2 d2) (.slice b3 ln.length d3) 1 1 ⟨[s0, s1], [l0, l1], ln⟩ (w1.alloc (.cells #[.slice b1 2 d1, .slice b2 2 d2, .slice b3 ln.length d3] 25))) := by
    refine Aft.start ?_ ?_
    · simpa using hb
    · simpa using ho
  clear ho hb HB3
  obtain ⟨p0, p1, p2, p3, -⟩ := HA.out.px
  obtain ⟨t0, t1, t2, -⟩ := HA.out.sx
  obtain ⟨n0, n1, n2, n3, nf⟩ := HA.out.nx
  go_wp2_with fail
  refine (sideOf_any _ _ _ _ ⟨[s0, s1], [l0, l1], ln⟩ 1 (HR.out _ HA.out.below).reads (by simp) (by simp)).mono ?_
  rintro e w2 ⟨rfl, hb2⟩
  have HA2 : Hid (Aft W w1.heap.size (.slice a1 2 c1) (.slice a2 2 c2) (.slice a3 ln.length c3) (.slice b1 2 d1) (.slice b2 2 d2) (.slice b3 ln.length d3) 1 1 ⟨[s0, s1], [l0, l1], ln⟩ w2) := HA.out.step hb2
  clear hb2 HA p0 p1 p2 p3 t0 t1 t2 n0 n1 n2 n3 nf
  simp only [List.getElem_cons_zero, List.getElem_cons_succ]
  go_wp2_with fail
  refine (silentSide_any _).mono ?_
  rintro e w3 ⟨rfl, hb3⟩
  have HA3 : Hid (Aft W w1.heap.size (.slice a1 2 c1) (.slice a2 2 c2) (.slice a3 ln.length c3) (.slice b1 2 d1) (.slice b2 2 d2) (.slice b3 ln.length d3) 1 1 ⟨[s0, s1], [l0, l1], ln⟩ w3) := HA2.out.step hb3
  clear hb3 HA2
  have HN : Hid (Aft W w1.heap.size (.slice a1 2 c1) (.slice a2 2 c2) (.slice a3 ln.length c3) (.slice b1 2 d1) (.slice b2 2 d2) (.slice b3 ln.length d3) 1 1 ⟨[s0, s1], [l0, l1], ln⟩ (w3.alloc (.cells #[.int .i64 1, .bool true] 66))) := HA3.out.step ((Below.refl _ w3).alloc (Nat.le_refl _) _)
  have HC : Hid (∀ ty, ∃ v' w', (Builtin.append_ #[23, 23] ty #[.slice b3 ln.length d3, .slice (some ⟨w3.heap.size, 0, none⟩) 1 1]).run Try.prog (w3.alloc (.cells #[.int .i64 1, .bool true] 66)) = .ok v' w' ∧ GrewH (w3.alloc (.cells #[.int .i64 1, .bool true] 66)) (W.heap.size + 1 + 1 + 1) (.slice b3 ln.length d3) ln' v' w') := fun ty => by
    rw [HLN.out]
    exact run_catH _ _ _ ln HN.out.own.ln _ [HD.mk 1 true] (one_hello w3 (HD.mk 1 true)) (by simp; omega) HN.out.lt2 ty
  obtain ⟨p0, p1, p2, p3, -⟩ := HA3.out.px
  obtain ⟨t0, t1, t2, -⟩ := HA3.out.sx
  obtain ⟨n0, n1, n2, n3, nf⟩ := HA3.out.nx
  go_wp2_with (at_builtin; refine list_cat (by rfl) (.tmp 27) (.tmp 32) 23 (by rfl) (.slice b3 ln.length d3) (.slice (some ⟨w3.heap.size, 0, none⟩) 1 1) (by rfl) (by rfl) _ HC.out ?_; intro v4 w4 hg4; obtain ⟨b4, d4, rfl⟩ := hg4.own.shape; have HF : Hid (Aft W w1.heap.size (.slice a1 2 c1) (.slice a2 2 c2) (.slice a3 ln.length c3) (.slice b1 2 d1) (.slice b2 2 d2) (.slice b4 ln'.length d4) 1 1 ⟨[s0, s1], [l0, l1], ln'⟩ (w4.setCell ⟨w1.heap.size, 2, none⟩ (.slice b4 ln'.length d4))) := say_line HN.out hg4; obtain ⟨u0, u1, u2, u3, uf⟩ := say_box HN.out hg4; obtain ⟨m0, m1, m2, m3, -⟩ := HF.out.nx; obtain ⟨r0, r1, r2, r3, rf⟩ := HF.out.rx; clear hg4)
  refine bodyPost_ret (v := .agg #[.slice b1 2 d1, .slice b2 2 d2, .slice b4 ln'.length d4]) (by simp [results, Try.results52, go_sem, r1, r2, r3]) rfl ⟨_, _, _, rfl, ?_, ?_⟩
  · exact HF.out.fin.1
  · exact HF.out.fin.2

end Go.Proofs.Ytchddjidjfpehat
