/-
  'afterStep' of the program, a step's kind at a time.
-/
import Derived.Test.YtchddjidjfpehatAfter0
namespace Go.Proofs.Ytchddjidjfpehat
open Go.RowKit

set_option maxRecDepth 100000 in
set_option maxHeartbeats 4000000 in
theorem after_lose (W : World) (B : Nat) (x y z : Value) (s0 s1 l0 l1 : Int) (ln : List HD) (k : Nat) (h : Own3 W B x y z ⟨[s0, s1], [l0, l1], ln⟩) (hl : ln.length ≤ 12) (hk : k < ln.length) :
    Calls Try.prog 52 #[.agg #[x, y, z], .agg #[.int .i64 3, .int .i64 (k : Int)]] W fun e W' => ∃ x' y' z', e = .returned (.agg #[x', y', z']) ∧ Own3 W' W.heap.size x' y' z' ⟨[s0, s1], [l0, l1], ln.eraseIdx k⟩ ∧ Below W.heap.size W W' := by
  obtain ⟨a1, c1, rfl⟩ := h.st.shape
  obtain ⟨a2, c2, rfl⟩ := h.lf.shape
  obtain ⟨a3, c3, rfl⟩ := h.ln.shape
  simp only [List.length_cons, List.length_nil, Nat.zero_add, Nat.reduceAdd] at *
  have HR : Hid (∀ W1, Below W.heap.size W W1 → Own3 W1 B (.slice a1 2 c1) (.slice a2 2 c2) (.slice a3 ln.length c3) ⟨[s0, s1], [l0, l1], ln⟩) := fun W1 hb => h.below hb
  have HB3 : Hid (Below W.heap.size W (((W.alloc (.cells #[.slice a1 2 c1, .slice a2 2 c2, .slice a3 ln.length c3] 25)).alloc (.cells #[.int .i64 3, .int .i64 (k : Int)] 41)).alloc (.cells #[.slice none 0 0, .slice none 0 0, .slice none 0 0] 25))) := (((Below.refl _ W).alloc (Nat.le_refl _) _).alloc (by simp) _).alloc (by simp; omega) _
  have HL : Hid (ln.length ≤ 1048576) := Nat.le_trans hl (by decide)
  clear h
  go_enter Try.func52, Try.ntmps52
  go_wp2_with fail
  refine (copyPair_any _ B _ _ _ ⟨[s0, s1], [l0, l1], ln⟩ (HR.out _ HB3.out) (by simp) (by simp) HL.out).mono ?_
  rintro e w1 ⟨x', y', z', rfl, ho, hb⟩
  obtain ⟨b1, d1, rfl⟩ := ho.st.shape
  obtain ⟨b2, d2, rfl⟩ := ho.lf.shape
  obtain ⟨b3, d3, rfl⟩ := ho.ln.shape
  simp only [List.length_cons, List.length_nil, Nat.zero_add, Nat.reduceAdd] at *
  have HA : Hid (Aft W w1.heap.size (.slice a1 2 c1) (.slice a2 2 c2) (.slice a3 ln.length c3) (.slice b1 2 d1) (.slice b2 2 d2) (.slice b3 ln.length d3) 3 (k : Int) ⟨[s0, s1], [l0, l1], ln⟩ (w1.alloc (.cells #[.slice b1 2 d1, .slice b2 2 d2, .slice b3 ln.length d3] 25))) := by
    refine Aft.start ?_ ?_
    · simpa using hb
    · simpa using ho
  clear ho hb HB3
  obtain ⟨p0, p1, p2, p3, -⟩ := HA.out.px
  obtain ⟨t0, t1, t2, -⟩ := HA.out.sx
  obtain ⟨n0, n1, n2, n3, nf⟩ := HA.out.nx
  go_wp2_with fail
  refine (lineWithout_any _ B _ ln k (HR.out _ HA.out.below).ln hk HL.out).mono ?_
  rintro e w2 ⟨v2, rfl, ho2, hb2⟩
  obtain ⟨b4, d4, rfl⟩ := ho2.shape
  have HF : Hid (Aft W w1.heap.size (.slice a1 2 c1) (.slice a2 2 c2) (.slice a3 ln.length c3) (.slice b1 2 d1) (.slice b2 2 d2) (.slice b4 (ln.eraseIdx k).length d4) 3 (k : Int) ⟨[s0, s1], [l0, l1], ln.eraseIdx k⟩ (w2.setCell ⟨w1.heap.size, 2, none⟩ (.slice b4 (ln.eraseIdx k).length d4))) :=
    HA.out.line hb2.size (fun j hj _ => hb2.block j hj) (hb2.mono HA.out.lt2) (ho2.mono HA.out.lt2) (.inr fun j hj => (World.ownsRow.lt ho2 j hj).1)
  obtain ⟨p0, p1, p2, p3, -⟩ := (HA.out.step hb2).px
  obtain ⟨t0, t1, t2, -⟩ := (HA.out.step hb2).sx
  obtain ⟨n0, n1, n2, n3, nf⟩ := (HA.out.step hb2).nx
  obtain ⟨m0, m1, m2, m3, -⟩ := HF.out.nx
  obtain ⟨r0, r1, r2, r3, rf⟩ := HF.out.rx
  clear ho2 hb2
  go_wp2
  refine bodyPost_ret (v := .agg #[.slice b1 2 d1, .slice b2 2 d2, .slice b4 (ln.eraseIdx k).length d4]) (by simp [results, Try.results52, go_sem, r1, r2, r3]) rfl ⟨_, _, _, rfl, ?_, ?_⟩
  · exact HF.out.fin.1
  · exact HF.out.fin.2

set_option maxRecDepth 100000 in
set_option maxHeartbeats 4000000 in
theorem after_take (W : World) (B : Nat) (x y z : Value) (s0 s1 l0 l1 : Int) (ln : List HD) (k : Nat) (q : HD) (h : Own3 W B x y z ⟨[s0, s1], [l0, l1], ln⟩) (hl : ln.length ≤ 12) (hk : k < ln.length) (hq : ln[k] = q) (hf : q.f = 0 ∨ q.f = 1) (g0 : stateB s0 = true) (g1 : stateB s1 = true) :
    Calls Try.prog 52 #[.agg #[x, y, z], .agg #[.int .i64 2, .int .i64 (k : Int)]] W fun e W' => ∃ x' y' z', e = .returned (.agg #[x', y', z']) ∧ Own3 W' W.heap.size x' y' z' ⟨[s0, s1].set (1 - q.f).toNat (heardS q.h), [l0, l1].set (1 - q.f).toNat 3, ln.eraseIdx k⟩ ∧ Below W.heap.size W W' := by
  obtain ⟨a1, c1, rfl⟩ := h.st.shape
  obtain ⟨a2, c2, rfl⟩ := h.lf.shape
  obtain ⟨a3, c3, rfl, hc3⟩ := h.ln.reads
  obtain ⟨g, off, rfl, hgl, hcell⟩ := hc3.resolve_left (fun e => by have e : ln = [] := e; rw [e] at hk; simp at hk)
  have hq0 := hcell k hk
  rw [hq] at hq0
  clear hcell hc3
  have HQ : Hid (∀ W1, Below W.heap.size W W1 → W1.cell? ⟨g, off + k * 2, none⟩ = some (.int .i64 q.f) ∧ W1.cell? ⟨g, off + k * 2 + 1, none⟩ = some (.bool q.h)) := fun W1 hb => hq0.below hgl hb
  clear hq0
  have i1 : (k : Int) < (ln.length : Int) := by omega
  have i0 : (0 : Int) ≤ (k : Int) := by omega
  simp only [List.length_cons, List.length_nil, Nat.zero_add, Nat.reduceAdd] at *
  have HR : Hid (∀ W1, Below W.heap.size W W1 → Own3 W1 B (.slice a1 2 c1) (.slice a2 2 c2) (.slice (some ⟨g, off, none⟩) ln.length c3) ⟨[s0, s1], [l0, l1], ln⟩) := fun W1 hb => h.below hb
  have HB3 : Hid (Below W.heap.size W (((W.alloc (.cells #[.slice a1 2 c1, .slice a2 2 c2, .slice (some ⟨g, off, none⟩) ln.length c3] 25)).alloc (.cells #[.int .i64 2, .int .i64 (k : Int)] 41)).alloc (.cells #[.slice none 0 0, .slice none 0 0, .slice none 0 0] 25))) := (((Below.refl _ W).alloc (Nat.le_refl _) _).alloc (by simp) _).alloc (by simp; omega) _
  have HL : Hid (ln.length ≤ 1048576) := Nat.le_trans hl (by decide)
  clear h
  go_enter Try.func52, Try.ntmps52
  go_wp2_with fail
  refine (copyPair_any _ B _ _ _ ⟨[s0, s1], [l0, l1], ln⟩ (HR.out _ HB3.out) (by simp) (by simp) HL.out).mono ?_
  rintro e w1 ⟨x', y', z', rfl, ho, hb⟩
  obtain ⟨b1, d1, rfl⟩ := ho.st.shape
  obtain ⟨b2, d2, rfl⟩ := ho.lf.shape
  obtain ⟨b3, d3, rfl⟩ := ho.ln.shape
  simp only [List.length_cons, List.length_nil, Nat.zero_add, Nat.reduceAdd] at *
  have HA : Hid (Aft W w1.heap.size (.slice a1 2 c1) (.slice a2 2 c2) (.slice (some ⟨g, off, none⟩) ln.length c3) (.slice b1 2 d1) (.slice b2 2 d2) (.slice b3 ln.length d3) 2 (k : Int) ⟨[s0, s1], [l0, l1], ln⟩ (w1.alloc (.cells #[.slice b1 2 d1, .slice b2 2 d2, .slice b3 ln.length d3] 25))) := by
    refine Aft.start ?_ ?_
    · simpa using hb
    · simpa using ho
  clear ho hb HB3
  have HAd : Aft W w1.heap.size (.slice a1 2 c1) (.slice a2 2 c2) (.slice (some ⟨g, off, none⟩) ln.length c3) (.slice b1 2 d1) (.slice b2 2 d2) (.slice b3 ln.length d3) 2 (k : Int) ⟨[s0, s1], [l0, l1], ln⟩ (w1.alloc (.cells #[.slice b1 2 d1, .slice b2 2 d2, .slice b3 ln.length d3] 25)).drew := HA.out.drew
  obtain ⟨p0, p1, p2, p3, -⟩ := HA.out.px
  obtain ⟨t0, t1, t2, -⟩ := HA.out.sx
  obtain ⟨n0, n1, n2, n3, nf⟩ := HA.out.nx
  go_wp2
  go_region_held3 (fun w' => w'.cell? ⟨w1.heap.size, 0, none⟩ = some (.slice b1 2 d1) ∧ w'.cell? ⟨w1.heap.size, 1, none⟩ = some (.slice b2 2 d2) ∧ w'.cell? ⟨w1.heap.size, 2, none⟩ = some (.slice b3 ln.length d3) ∧ w'.cell? ⟨W.heap.size, 2, none⟩ = some (.slice (some ⟨g, off, none⟩) ln.length c3) ∧ w'.cell? ⟨W.heap.size + 1, 1, none⟩ = some (.int .i64 (k : Int)) ∧ w'.cell? ⟨g, off + k * 2, none⟩ = some (.int .i64 q.f) ∧ w'.cell? ⟨g, off + k * 2 + 1, none⟩ = some (.bool q.h))
    (first | exact ⟨HAh.nx.c0, HAh.nx.c1, HAh.nx.c2, HAh.px.c2, HAh.sx.c1, (HQ.out _ HAh.below).1, (HQ.out _ HAh.below).2⟩ | exact ⟨HAd.nx.c0, HAd.nx.c1, HAd.nx.c2, HAd.px.c2, HAd.sx.c1, (HQ.out _ HAd.below).1, (HQ.out _ HAd.below).2⟩)
    (first
      | (refine step_call (by rfl) 62 #[.agg #[.slice b1 2 d1, .slice b2 2 d2, .slice b3 ln.length d3], .agg #[.int .i64 q.f, .bool q.h]] (by simp [go_sem]) ((hear_any _ _ _ _ _ s0 s1 l0 l1 ln q HAd.own HAd.lt2 hf g0 g1).mono ?_); rintro e w2 ⟨⟨v, rfl⟩, ho2, hw2⟩; refine ⟨_, rfl, ?_⟩; have HAh := HAd.wrote hw2 ho2; clear ho2 hw2))
  all_goals
    have HA2 : Hid (Aft W w1.heap.size (.slice a1 2 c1) (.slice a2 2 c2) (.slice (some ⟨g, off, none⟩) ln.length c3) (.slice b1 2 d1) (.slice b2 2 d2) (.slice b3 ln.length d3) 2 (k : Int) ⟨[s0, s1].set (1 - q.f).toNat (heardS q.h), [l0, l1].set (1 - q.f).toNat 3, ln⟩ w2) := HAh
    clear p0 p1 p2 p3 t0 t1 t2 n0 n1 n2 n3 nf HAd HAh HA
    obtain ⟨p0, p1, p2, p3, -⟩ := HA2.out.px
    obtain ⟨t0, t1, t2, -⟩ := HA2.out.sx
    obtain ⟨n0, n1, n2, n3, nf⟩ := HA2.out.nx
    go_wp2_with fail
    refine (lineWithout_any _ B _ ln k (HR.out _ HA2.out.below).ln hk HL.out).mono ?_
    rintro e w3 ⟨v3, rfl, ho3, hb3⟩
    obtain ⟨b4, d4, rfl⟩ := ho3.shape
    have HF : Hid (Aft W w1.heap.size (.slice a1 2 c1) (.slice a2 2 c2) (.slice (some ⟨g, off, none⟩) ln.length c3) (.slice b1 2 d1) (.slice b2 2 d2) (.slice b4 (ln.eraseIdx k).length d4) 2 (k : Int) ⟨[s0, s1].set (1 - q.f).toNat (heardS q.h), [l0, l1].set (1 - q.f).toNat 3, ln.eraseIdx k⟩ (w3.setCell ⟨w1.heap.size, 2, none⟩ (.slice b4 (ln.eraseIdx k).length d4))) :=
      HA2.out.line hb3.size (fun j hj _ => hb3.block j hj) (hb3.mono HA2.out.lt2) (ho3.mono HA2.out.lt2) (.inr fun j hj => (World.ownsRow.lt ho3 j hj).1)
    obtain ⟨p0, p1, p2, p3, -⟩ := (HA2.out.step hb3).px
    obtain ⟨t0, t1, t2, -⟩ := (HA2.out.step hb3).sx
    obtain ⟨n0, n1, n2, n3, nf⟩ := (HA2.out.step hb3).nx
    obtain ⟨m0, m1, m2, m3, -⟩ := HF.out.nx
    obtain ⟨r0, r1, r2, r3, rf⟩ := HF.out.rx
    clear ho3 hb3
    go_wp2
    refine bodyPost_ret (v := .agg #[.slice b1 2 d1, .slice b2 2 d2, .slice b4 (ln.eraseIdx k).length d4]) (by simp [results, Try.results52, go_sem, r1, r2, r3]) rfl ⟨_, _, _, rfl, ?_, ?_⟩
    · exact HF.out.fin.1
    · exact HF.out.fin.2

end Go.Proofs.Ytchddjidjfpehat
