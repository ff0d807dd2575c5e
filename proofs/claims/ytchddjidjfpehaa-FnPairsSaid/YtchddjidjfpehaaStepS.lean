/-
  'StepPair' of the model.
-/
import Derived.Test.YtchddjidjfpehaaSpStep
namespace Go.Proofs.Ytchddjidjfpehaa
open Go.RowKit

theorem Keep.step {W w w' : World} {x y z : Value} (h : Keep W w x y z) (hb : Below w.heap.size w w') : Keep W w' x y z := ⟨Nat.le_trans h.size hb.size, fun b hl hn => (hb.block b (Nat.lt_of_lt_of_le hl h.size)).trans (h.block b hl hn)⟩

theorem Bx2.since {B : Nat} {w0 w : World} {b : Nat} {x y : Value} (h : Bx2 w0 b x y) (hS : Since B w0 w) (hb : b < B) : Bx2 w b x y := h.same (hS.1.block b hb) hS.1.size
theorem Bx2.since2 {B : Nat} {w0 w : World} {b : Nat} {x y : Value} (h : Bx2 w0 b x y) (hS : Since B w0 w) (hb : b < B) : Bx2 w b x y := h.since hS hb
theorem held5 {w : World} {b b' : Nat} {x y z s u : Value} (h : Bx3 w b x y z) (hs : Bx2 w b' s u) : w.cell? ⟨b, 0, none⟩ = some x ∧ w.cell? ⟨b, 1, none⟩ = some y ∧ w.cell? ⟨b, 2, none⟩ = some z ∧ w.cell? ⟨b', 0, none⟩ = some s ∧ w.cell? ⟨b', 1, none⟩ = some u := ⟨h.c0, h.c1, h.c2, hs.c0, hs.c1⟩
theorem held5_al {w : World} {b b' : Nat} {x y z s u : Value} (h : Bx3 w b x y z) (hs : Bx2 w b' s u) (o : Obj) : (w.alloc o).cell? ⟨b, 0, none⟩ = some x ∧ (w.alloc o).cell? ⟨b, 1, none⟩ = some y ∧ (w.alloc o).cell? ⟨b, 2, none⟩ = some z ∧ (w.alloc o).cell? ⟨b', 0, none⟩ = some s ∧ (w.alloc o).cell? ⟨b', 1, none⟩ = some u :=
  held5 (h.below ((Below.refl _ w).alloc (Nat.le_refl _) o)) (hs.below ((Below.refl _ w).alloc (Nat.le_refl _) o))
theorem held5_set {w : World} {b b' : Nat} {x y z s u : Value} (h : Bx3 w b x y z) (hs : Bx2 w b' s u) {r : Nat} (h1 : r ≠ b) (h2 : r ≠ b') (i j k : Value) :
    (((w.setCell ⟨r, 0, none⟩ i).setCell ⟨r, 1, none⟩ j).setCell ⟨r, 2, none⟩ k).cell? ⟨b, 0, none⟩ = some x ∧ (((w.setCell ⟨r, 0, none⟩ i).setCell ⟨r, 1, none⟩ j).setCell ⟨r, 2, none⟩ k).cell? ⟨b, 1, none⟩ = some y ∧
    (((w.setCell ⟨r, 0, none⟩ i).setCell ⟨r, 1, none⟩ j).setCell ⟨r, 2, none⟩ k).cell? ⟨b, 2, none⟩ = some z ∧ (((w.setCell ⟨r, 0, none⟩ i).setCell ⟨r, 1, none⟩ j).setCell ⟨r, 2, none⟩ k).cell? ⟨b', 0, none⟩ = some s ∧ (((w.setCell ⟨r, 0, none⟩ i).setCell ⟨r, 1, none⟩ j).setCell ⟨r, 2, none⟩ k).cell? ⟨b', 1, none⟩ = some u := by
  have e : ∀ c o, r ≠ c → (((w.setCell ⟨r, 0, none⟩ i).setCell ⟨r, 1, none⟩ j).setCell ⟨r, 2, none⟩ k).cell? ⟨c, o, none⟩ = w.cell? ⟨c, o, none⟩ := fun c o hc =>
    World.cell?_of_block ((Below.heap_setCell _ _ _ _ (fun e => hc e.symm)).trans ((Below.heap_setCell _ _ _ _ (fun e => hc e.symm)).trans (Below.heap_setCell _ _ _ _ (fun e => hc e.symm))))
  exact ⟨(e _ _ h1).trans h.c0, (e _ _ h1).trans h.c1, (e _ _ h1).trans h.c2, (e _ _ h2).trans hs.c0, (e _ _ h2).trans hs.c1⟩

set_option maxRecDepth 100000 in
set_option maxHeartbeats 4000000 in
theorem specStep_any (W : World) (B : Nat) (x y z : Value) (p : PR) (kind k : Int) (h : Own3 W B x y z p) (h1 : p.st.length ≤ 1048576) (h2 : p.lf.length ≤ 1048576) (h3 : p.ln.length ≤ 1048576) :
    Calls Try.prog 30 #[.agg #[x, y, z], .agg #[.int .i64 kind, .int .i64 k]] W fun e W' => ∃ x' y' z', e = .returned (.tuple #[.agg #[x', y', z'], .bool (stepOk p kind k)]) ∧ Own3 W' W.heap.size x' y' z' (stepOut p kind k) ∧ Below W.heap.size W W' := by
  obtain ⟨a1, c1, rfl⟩ := h.st.shape
  obtain ⟨a2, c2, rfl⟩ := h.lf.shape
  obtain ⟨a3, c3, rfl⟩ := h.ln.shape
  have HR : Hid (∀ W1, Since W.heap.size W W1 → Own3 W1 B (.slice a1 p.st.length c1) (.slice a2 p.lf.length c2) (.slice a3 p.ln.length c3) p) := fun W1 hb => h.below hb.1
  have HS0 : Hid (Since W.heap.size W (((W.alloc (.cells #[.slice a1 p.st.length c1, .slice a2 p.lf.length c2, .slice a3 p.ln.length c3] 40)).alloc (.cells #[.int .i64 kind, .int .i64 k] 53)).alloc (.cells #[.slice none 0 0, .slice none 0 0, .slice none 0 0] 40))) := (((Since.start W).step ((Below.refl _ W).alloc (Nat.le_refl _) _)).step ((Below.refl _ _).alloc (Nat.le_refl _) _)).step ((Below.refl _ _).alloc (Nat.le_refl _) _)
  have HP0 : Hid (Bx3 (((W.alloc (.cells #[.slice a1 p.st.length c1, .slice a2 p.lf.length c2, .slice a3 p.ln.length c3] 40)).alloc (.cells #[.int .i64 kind, .int .i64 k] 53)).alloc (.cells #[.slice none 0 0, .slice none 0 0, .slice none 0 0] 40)) W.heap.size (.slice a1 p.st.length c1) (.slice a2 p.lf.length c2) (.slice a3 p.ln.length c3)) := ((Bx3.new _ _ _ _ _).below ((Below.refl _ _).alloc (Nat.le_refl _) _)).below ((Below.refl _ _).alloc (Nat.le_refl _) _)
  have HT0 : Hid (Bx2 (((W.alloc (.cells #[.slice a1 p.st.length c1, .slice a2 p.lf.length c2, .slice a3 p.ln.length c3] 40)).alloc (.cells #[.int .i64 kind, .int .i64 k] 53)).alloc (.cells #[.slice none 0 0, .slice none 0 0, .slice none 0 0] 40)) (W.heap.size + 1) (.int .i64 kind) (.int .i64 k)) := by
    have := (Bx2.new (W.alloc (.cells #[.slice a1 p.st.length c1, .slice a2 p.lf.length c2, .slice a3 p.ln.length c3] 40)) (.int .i64 kind) (.int .i64 k) 53).below ((Below.refl _ _).alloc (Nat.le_refl _) (.cells #[.slice none 0 0, .slice none 0 0, .slice none 0 0] 40))
    exact (show Bx2 _ _ _ _ by simpa using this)
  have HQ0 : Hid (Bx3 (((W.alloc (.cells #[.slice a1 p.st.length c1, .slice a2 p.lf.length c2, .slice a3 p.ln.length c3] 40)).alloc (.cells #[.int .i64 kind, .int .i64 k] 53)).alloc (.cells #[.slice none 0 0, .slice none 0 0, .slice none 0 0] 40)) (W.heap.size + 1 + 1) (.slice none 0 0) (.slice none 0 0) (.slice none 0 0)) := by
    have := Bx3.new ((W.alloc (.cells #[.slice a1 p.st.length c1, .slice a2 p.lf.length c2, .slice a3 p.ln.length c3] 40)).alloc (.cells #[.int .i64 kind, .int .i64 k] 53)) (.slice none 0 0) (.slice none 0 0) (.slice none 0 0) 40
    exact (show Bx3 _ _ _ _ _ by simpa using this)
  clear h
  cases hg : goodPr p with
  | false =>
    have hok : stepOk p kind k = false := by unfold stepOk; rw [hg]; rfl
    rw [hok, stepOut_no p kind k hok]
    have HG : Hid (goodPr p = false) := hg
    clear hg hok
    go_enter Try.func30, Try.ntmps30
    go_wp2_with fail
    refine (specGoodPair_any _ _ _ _ p (HR.out _ HS0.out).reads h1 h2 h3).mono ?_
    rintro e w1 ⟨rfl, hb1⟩
    rw [HG.out]
    have HS1 : Hid (Since W.heap.size W w1) := HS0.out.step hb1
    obtain ⟨q0, q1, q2, q3, qf⟩ := HQ0.out.below hb1
    clear hb1
    go_wp2
    refine bodyPost_ret (v := .tuple #[.agg #[.slice none 0 0, .slice none 0 0, .slice none 0 0], .bool false]) (by simp [results, Try.results30, go_sem, q1, q2, q3]) rfl ⟨_, _, _, rfl, Own3.nil _ _, ?_⟩
    exact ((HS1.out.1.setCell (by simp; omega) _).setCell (by simp; omega) _).setCell (by simp; omega) _
  | true =>
    have HG : Hid (goodPr p = true) := hg
    obtain ⟨ok, hok⟩ : ∃ ok, ok = canB p.ln kind k := ⟨_, rfl⟩
    have e1 : stepOk p kind k = ok := by unfold stepOk; rw [hg, hok]; rfl
    have HOK : Hid (canB p.ln kind k = ok) := hok.symm
    obtain ⟨out, hout⟩ : ∃ out, out = stepOut p kind k := ⟨_, rfl⟩
    have HY : Hid (ok = true → stepP p kind k = out) := fun h1 => by rw [hout, stepOut_yes p kind k (e1.trans h1)]
    have HN : Hid (ok = false → noP = out) := fun h1 => by rw [hout, stepOut_no p kind k (e1.trans h1)]
    have HL : Hid (out.st.length ≤ 1048576 ∧ out.lf.length ≤ 1048576 ∧ out.ln.length ≤ 1048576) := by
      obtain ⟨l1, l2, l3⟩ := stepOut_len p kind k
      rw [hout]
      exact ⟨by omega, by omega, by omega⟩
    rw [e1, ← hout]
    clear hg e1 hok hout
    go_enter Try.func30, Try.ntmps30
    go_wp2_with fail
    refine (specGoodPair_any _ _ _ _ p (HR.out _ HS0.out).reads h1 h2 h3).mono ?_
    rintro e w1 ⟨rfl, hb1⟩
    rw [HG.out]
    have HS1 : Since W.heap.size W w1.drew := (HS0.out.step hb1).drew
    have HP1 : Bx3 w1.drew W.heap.size (.slice a1 p.st.length c1) (.slice a2 p.lf.length c2) (.slice a3 p.ln.length c3) := (HP0.out.below hb1).drew
    have HT1 : Bx2 w1.drew (W.heap.size + 1) (.int .i64 kind) (.int .i64 k) := (HT0.out.below hb1).drew
    have HQ1 : Bx3 w1.drew (W.heap.size + 1 + 1) (.slice none 0 0) (.slice none 0 0) (.slice none 0 0) := (HQ0.out.below hb1).drew
    have HA1 : Below w1.heap.size w1 (w1.alloc (.cells #[.slice none 0 0, .slice none 0 0, .slice none 0 0] 40)).drew := ((Below.refl _ w1).alloc (Nat.le_refl _) _).drew
    have HSc : Since W.heap.size W (w1.alloc (.cells #[.slice none 0 0, .slice none 0 0, .slice none 0 0] 40)).drew := (HS0.out.step hb1).step HA1
    have HPc : Bx3 (w1.alloc (.cells #[.slice none 0 0, .slice none 0 0, .slice none 0 0] 40)).drew W.heap.size (.slice a1 p.st.length c1) (.slice a2 p.lf.length c2) (.slice a3 p.ln.length c3) := (HP0.out.below hb1).below HA1
    have HTc : Bx2 (w1.alloc (.cells #[.slice none 0 0, .slice none 0 0, .slice none 0 0] 40)).drew (W.heap.size + 1) (.int .i64 kind) (.int .i64 k) := (HT0.out.below hb1).below HA1
    have HQc : Bx3 (w1.alloc (.cells #[.slice none 0 0, .slice none 0 0, .slice none 0 0] 40)).drew (W.heap.size + 1 + 1) (.slice none 0 0) (.slice none 0 0) (.slice none 0 0) := (HQ0.out.below hb1).below HA1
    have HBc : Bx3 (w1.alloc (.cells #[.slice none 0 0, .slice none 0 0, .slice none 0 0] 40)).drew w1.heap.size (.slice none 0 0) (.slice none 0 0) (.slice none 0 0) := (Bx3.new _ _ _ _ _).drew
    have hzc : (w1.alloc (.cells #[.slice none 0 0, .slice none 0 0, .slice none 0 0] 40)).drew.heap.size = w1.heap.size + 1 := by simp [World.drew]
    have hzd : w1.drew.heap.size = w1.heap.size := rfl
    have u1 : W.heap.size + 1 + 1 < w1.heap.size := HQ1.lt
    obtain ⟨p0, p1, p2, p3, -⟩ := HP0.out.below hb1
    obtain ⟨t0, t1, t2, -⟩ := HT0.out.below hb1
    clear hb1
    go_wp2
    go_region_held3 (fun w' => w'.cell? ⟨W.heap.size, 0, none⟩ = some (.slice a1 p.st.length c1) ∧ w'.cell? ⟨W.heap.size, 1, none⟩ = some (.slice a2 p.lf.length c2) ∧ w'.cell? ⟨W.heap.size, 2, none⟩ = some (.slice a3 p.ln.length c3) ∧ w'.cell? ⟨W.heap.size + 1, 0, none⟩ = some (.int .i64 kind) ∧ w'.cell? ⟨W.heap.size + 1, 1, none⟩ = some (.int .i64 k))
      (first | with_reducible exact held5 HP3 HT3 | with_reducible exact held5_al HP3 HT3 _ | with_reducible exact held5_set HP3 HT3 hx1 hx2 _ _ _ | with_reducible exact held5 HP2 HT2 | with_reducible exact held5_al HP2 HT2 _ | with_reducible exact held5 HP1 HT1 | with_reducible exact held5 HPc HTc | fail)
      (first
        | (refine step_call (by rfl) 57 #[.agg #[.slice a1 p.st.length c1, .slice a2 p.lf.length c2, .slice a3 p.ln.length c3]] (by simp [go_sem]) ((l3Own_any w1.drew B _ _ _ p (HR.out _ HS1) h1 h2 h3).mono ?_); rintro e w2 ⟨x2, y2, z2, rfl, ho2, hb2⟩; refine ⟨_, rfl, ?_⟩; obtain ⟨b1, d1, rfl⟩ := ho2.st.shape; obtain ⟨b2, d2, rfl⟩ := ho2.lf.shape; obtain ⟨b3, d3, rfl⟩ := ho2.ln.shape; have HP2 := HP1.below hb2; have HT2 := HT1.below hb2; have HQ2 := HQ1.below hb2; have HS2 := HS1.step hb2; have hz2 := hb2.size; have HA2 : Below w2.heap.size w2 (w2.alloc (.cells #[.slice none 0 0, .slice none 0 0, .slice none 0 0] 40)) := (Below.refl _ w2).alloc (Nat.le_refl _) _)
        | (refine step_call (by rfl) 57 #[.agg #[.slice a1 p.st.length c1, .slice a2 p.lf.length c2, .slice a3 p.ln.length c3]] (by simp [go_sem]) ((l3Own_any (w1.alloc (.cells #[.slice none 0 0, .slice none 0 0, .slice none 0 0] 40)).drew B _ _ _ p (HR.out _ HSc) h1 h2 h3).mono ?_); rintro e w2 ⟨x2, y2, z2, rfl, ho2, hb2⟩; refine ⟨_, rfl, ?_⟩; obtain ⟨b1, d1, rfl⟩ := ho2.st.shape; obtain ⟨b2, d2, rfl⟩ := ho2.lf.shape; obtain ⟨b3, d3, rfl⟩ := ho2.ln.shape; have HP2 := HPc.below hb2; have HT2 := HTc.below hb2; have HQ2 := HQc.below hb2; have HS2 := HSc.step hb2; have HB2 := HBc.below hb2; have hz2 := hb2.size)
        | (refine step_call (by rfl) 56 #[.agg #[.slice b1 p.st.length d1, .slice b2 p.lf.length d2, .slice b3 p.ln.length d3], .agg #[.int .i64 kind, .int .i64 k]] (by simp [go_sem]) ((l3Step_any w2 _ _ _ _ p kind k ho2 hz2 HG.out).mono ?_); rintro e w3 ⟨q, hq, x3, y3, z3, rfl, ho3, hb3, hk3, hr3⟩; refine ⟨_, rfl, ?_⟩; rw [HOK.out] at hq ⊢; obtain ⟨f1, i1, rfl⟩ := ho3.st.shape; obtain ⟨f2, i2, rfl⟩ := ho3.lf.shape; obtain ⟨f3, i3, rfl⟩ := ho3.ln.shape; have HS3 : Since _ w2 w3 := ⟨hb3, Nat.le_trans hz2 hk3.size⟩; have HP3 := HP2.since HS3 (by omega); have HT3 := HT2.since2 HS3 (by omega); have HQ3 := HQ2.since HS3 (by omega); (try (obtain ⟨g0, g1, g2, g3, gf⟩ := HB2.since HS3 (by omega))); have hx1 : w1.heap.size ≠ W.heap.size := (by omega); have hx2 : w1.heap.size ≠ W.heap.size + 1 := (by omega))
        | (refine step_call (by rfl) 56 #[.agg #[.slice b1 p.st.length d1, .slice b2 p.lf.length d2, .slice b3 p.ln.length d3], .agg #[.int .i64 kind, .int .i64 k]] (by simp [go_sem]) ((l3Step_any (w2.alloc (.cells #[.slice none 0 0, .slice none 0 0, .slice none 0 0] 40)) _ _ _ _ p kind k (ho2.below HA2) (Nat.le_trans hz2 HA2.size) HG.out).mono ?_); rintro e w3 ⟨q, hq, x3, y3, z3, rfl, ho3, hb3, hk3, hr3⟩; refine ⟨_, rfl, ?_⟩; rw [HOK.out] at hq ⊢; obtain ⟨f1, i1, rfl⟩ := ho3.st.shape; obtain ⟨f2, i2, rfl⟩ := ho3.lf.shape; obtain ⟨f3, i3, rfl⟩ := ho3.ln.shape; have HS3 : Since _ (w2.alloc (.cells #[.slice none 0 0, .slice none 0 0, .slice none 0 0] 40)) w3 := ⟨hb3, Nat.le_trans (Nat.le_trans hz2 HA2.size) hk3.size⟩; have HP3 := (HP2.below HA2).since HS3 (by omega); have HT3 := (HT2.below HA2).since2 HS3 (by omega); have HQ3 := (HQ2.below HA2).since HS3 (by omega); obtain ⟨g0, g1, g2, g3, gf⟩ := (Bx3.new w2 (.slice none 0 0) (.slice none 0 0) (.slice none 0 0) 40).keep hk3 (fun hh => Nat.lt_irrefl _ (ho2.lt _ hh).2); have hx1 : w2.heap.size ≠ W.heap.size := (by omega); have hx2 : w2.heap.size ≠ W.heap.size + 1 := (by omega))
        | fail)
    · have HAL : Below w3.heap.size w3 (w3.alloc (.cells #[.slice f1 q.st.length i1, .slice f2 q.lf.length i2, .slice f3 q.ln.length i3] 40)) := (Below.refl _ w3).alloc (Nat.le_refl _) _
      have HBF : Hid (Bx3 (w3.alloc (.cells #[.slice f1 q.st.length i1, .slice f2 q.lf.length i2, .slice f3 q.ln.length i3] 40)) w3.heap.size (.slice f1 q.st.length i1) (.slice f2 q.lf.length i2) (.slice f3 q.ln.length i3)) := Bx3.new _ _ _ _ _
      have HOF : Hid (Own3 (w3.alloc (.cells #[.slice f1 q.st.length i1, .slice f2 q.lf.length i2, .slice f3 q.ln.length i3] 40)) 0 (.slice f1 q.st.length i1) (.slice f2 q.lf.length i2) (.slice f3 q.ln.length i3) q) := (ho3.below HAL).mono (Nat.zero_le _)
      have HSF : Hid (Since W.heap.size W (w3.alloc (.cells #[.slice f1 q.st.length i1, .slice f2 q.lf.length i2, .slice f3 q.ln.length i3] 40))) := Since.step ⟨HS2.1.trans (hb3.mono (by omega)), Nat.le_trans HS2.2 hk3.size⟩ HAL
      have HQF : Hid (Bx3 (w3.alloc (.cells #[.slice f1 q.st.length i1, .slice f2 q.lf.length i2, .slice f3 q.ln.length i3] 40)) (W.heap.size + 1 + 1) (.slice none 0 0) (.slice none 0 0) (.slice none 0 0)) := HQ3.below HAL
      have HQQ : Hid (ok = true → q = out) := fun h4 => (hq h4).trans (HY.out h4)
      clear hq
      generalize hwF : (w3.alloc (.cells #[.slice f1 q.st.length i1, .slice f2 q.lf.length i2, .slice f3 q.ln.length i3] 40)) = wF at *
      clear hwF
      obtain ⟨m0, m1, m2, m3, mf⟩ := HBF.out
      obtain ⟨y0, y1, y2, y3, yf⟩ := HQF.out
      cases ok with
      | false =>
        have HNN := HN.out rfl
        go_wp2
        refine bodyPost_ret (v := .tuple #[.agg #[.slice none 0 0, .slice none 0 0, .slice none 0 0], .bool false]) (by simp [results, Try.results30, go_sem, y1, y2, y3]) rfl ⟨_, _, _, rfl, by rw [← HNN]; exact Own3.nil _ _, ?_⟩
        exact ((HSF.out.1.setCell (by simp; omega) _).setCell (by simp; omega) _).setCell (by simp; omega) _
      | true =>
        have HQ4 : Hid (q = out) := HQQ.out rfl
        have L1 : Hid (q.st.length ≤ 1048576) := by show _ ≤ _; rw [HQ4.out]; exact HL.out.1
        have L2 : Hid (q.lf.length ≤ 1048576) := by show _ ≤ _; rw [HQ4.out]; exact HL.out.2.1
        have L3 : Hid (q.ln.length ≤ 1048576) := by show _ ≤ _; rw [HQ4.out]; exact HL.out.2.2
        go_wp2_with fail
        refine (l3Own_any wF 0 _ _ _ q HOF.out L1.out L2.out L3.out).mono ?_
        rintro e w4 ⟨x4, y4, z4, rfl, ho4, hb4⟩
        obtain ⟨j1, e1, rfl⟩ := ho4.st.shape
        obtain ⟨j2, e2, rfl⟩ := ho4.lf.shape
        obtain ⟨j3, e3, rfl⟩ := ho4.ln.shape
        have HS4 : Hid (Since W.heap.size W w4) := HSF.out.step hb4
        have hlt : W.heap.size + 1 + 1 < wF.heap.size := HQF.out.lt
        have HO4 : Hid (Own3 w4 wF.heap.size (.slice j1 q.st.length e1) (.slice j2 q.lf.length e2) (.slice j3 q.ln.length e3) q) := ho4
        clear y0 y1 y2 y3 yf m0 m1 m2 m3 mf
        obtain ⟨y0, y1, y2, y3, yf⟩ := HQF.out.below hb4
        clear hb4 ho4
        go_wp2
        refine bodyPost_ret (v := .tuple #[.agg #[.slice j1 q.st.length e1, .slice j2 q.lf.length e2, .slice j3 q.ln.length e3], .bool true]) (by simp [results, Try.results30, go_sem, y1, y2, y3]) rfl ⟨_, _, _, rfl, ?_, ?_⟩
        · rw [← HQ4.out]
          exact (((HO4.out.setCell (a := ⟨W.heap.size + 1 + 1, 0, none⟩) hlt _).setCell (a := ⟨W.heap.size + 1 + 1, 1, none⟩) hlt _).setCell (a := ⟨W.heap.size + 1 + 1, 2, none⟩) hlt _).mono (by have := HSF.out.2; omega)
        · exact ((HS4.out.1.setCell (by simp; omega) _).setCell (by simp; omega) _).setCell (by simp; omega) _
    · have hn : ¬ Has (.slice f1 q.st.length i1) (.slice f2 q.lf.length i2) (.slice f3 q.ln.length i3) w2.heap.size := fun hh => by
        rcases hr3 _ hh with ⟨h4, -⟩ | h4
        · exact Nat.lt_irrefl _ (ho2.lt _ h4).2
        · simp at h4
          omega
      have hsw : W.heap.size ≤ w3.heap.size := by have := hk3.size; have := HS2.2; simp at *; omega
      have HSW : Below W.heap.size W w3 := (HS2.1.trans (HA2.mono HS2.2)).trans (hb3.mono (by omega))
      have hbx : W.heap.size + 1 + 1 < w2.heap.size := by omega
      have HB3 : Bx3 w3 w2.heap.size (.slice none 0 0) (.slice none 0 0) (.slice none 0 0) := ⟨g0, g1, g2, g3, gf⟩
      have HBF : Hid (Bx3 (((w3.setCell ⟨w2.heap.size, 0, none⟩ (.slice f1 q.st.length i1)).setCell ⟨w2.heap.size, 1, none⟩ (.slice f2 q.lf.length i2)).setCell ⟨w2.heap.size, 2, none⟩ (.slice f3 q.ln.length i3)) w2.heap.size (.slice f1 q.st.length i1) (.slice f2 q.lf.length i2) (.slice f3 q.ln.length i3)) := ((HB3.put0 _).put1 _).put2 _
      have HOF : Hid (Own3 (((w3.setCell ⟨w2.heap.size, 0, none⟩ (.slice f1 q.st.length i1)).setCell ⟨w2.heap.size, 1, none⟩ (.slice f2 q.lf.length i2)).setCell ⟨w2.heap.size, 2, none⟩ (.slice f3 q.ln.length i3)) 0 (.slice f1 q.st.length i1) (.slice f2 q.lf.length i2) (.slice f3 q.ln.length i3) q) := (((ho3.away (a := ⟨w2.heap.size, 0, none⟩) hn _).away (a := ⟨w2.heap.size, 1, none⟩) hn _).away (a := ⟨w2.heap.size, 2, none⟩) hn _).mono (Nat.zero_le _)
      have HSF : Hid (Since W.heap.size W (((w3.setCell ⟨w2.heap.size, 0, none⟩ (.slice f1 q.st.length i1)).setCell ⟨w2.heap.size, 1, none⟩ (.slice f2 q.lf.length i2)).setCell ⟨w2.heap.size, 2, none⟩ (.slice f3 q.ln.length i3))) := ⟨((HSW.setCell (p := ⟨w2.heap.size, 0, none⟩) (by show _ ≤ w2.heap.size; omega) _).setCell (p := ⟨w2.heap.size, 1, none⟩) (by show _ ≤ w2.heap.size; omega) _).setCell (p := ⟨w2.heap.size, 2, none⟩) (by show _ ≤ w2.heap.size; omega) _, by simpa [World.setCell] using hsw⟩
      have HQF : Hid (Bx3 (((w3.setCell ⟨w2.heap.size, 0, none⟩ (.slice f1 q.st.length i1)).setCell ⟨w2.heap.size, 1, none⟩ (.slice f2 q.lf.length i2)).setCell ⟨w2.heap.size, 2, none⟩ (.slice f3 q.ln.length i3)) (W.heap.size + 1 + 1) (.slice none 0 0) (.slice none 0 0) (.slice none 0 0)) := ((HQ3.other (by show w2.heap.size ≠ _; omega) _).other (by show w2.heap.size ≠ _; omega) _).other (by show w2.heap.size ≠ _; omega) _
      have HQQ : Hid (ok = true → q = out) := fun h4 => (hq h4).trans (HY.out h4)
      clear hq
      generalize hwF : (((w3.setCell ⟨w2.heap.size, 0, none⟩ (.slice f1 q.st.length i1)).setCell ⟨w2.heap.size, 1, none⟩ (.slice f2 q.lf.length i2)).setCell ⟨w2.heap.size, 2, none⟩ (.slice f3 q.ln.length i3)) = wF at *
      clear hwF
      obtain ⟨m0, m1, m2, m3, mf⟩ := HBF.out
      obtain ⟨y0, y1, y2, y3, yf⟩ := HQF.out
      cases ok with
      | false =>
        have HNN := HN.out rfl
        go_wp2
        refine bodyPost_ret (v := .tuple #[.agg #[.slice none 0 0, .slice none 0 0, .slice none 0 0], .bool false]) (by simp [results, Try.results30, go_sem, y1, y2, y3]) rfl ⟨_, _, _, rfl, by rw [← HNN]; exact Own3.nil _ _, ?_⟩
        exact ((HSF.out.1.setCell (by simp; omega) _).setCell (by simp; omega) _).setCell (by simp; omega) _
      | true =>
        have HQ4 : Hid (q = out) := HQQ.out rfl
        have L1 : Hid (q.st.length ≤ 1048576) := by show _ ≤ _; rw [HQ4.out]; exact HL.out.1
        have L2 : Hid (q.lf.length ≤ 1048576) := by show _ ≤ _; rw [HQ4.out]; exact HL.out.2.1
        have L3 : Hid (q.ln.length ≤ 1048576) := by show _ ≤ _; rw [HQ4.out]; exact HL.out.2.2
        go_wp2_with fail
        refine (l3Own_any wF 0 _ _ _ q HOF.out L1.out L2.out L3.out).mono ?_
        rintro e w4 ⟨x4, y4, z4, rfl, ho4, hb4⟩
        obtain ⟨j1, e1, rfl⟩ := ho4.st.shape
        obtain ⟨j2, e2, rfl⟩ := ho4.lf.shape
        obtain ⟨j3, e3, rfl⟩ := ho4.ln.shape
        have HS4 : Hid (Since W.heap.size W w4) := HSF.out.step hb4
        have hlt : W.heap.size + 1 + 1 < wF.heap.size := HQF.out.lt
        have HO4 : Hid (Own3 w4 wF.heap.size (.slice j1 q.st.length e1) (.slice j2 q.lf.length e2) (.slice j3 q.ln.length e3) q) := ho4
        clear y0 y1 y2 y3 yf m0 m1 m2 m3 mf
        obtain ⟨y0, y1, y2, y3, yf⟩ := HQF.out.below hb4
        clear hb4 ho4
        go_wp2
        refine bodyPost_ret (v := .tuple #[.agg #[.slice j1 q.st.length e1, .slice j2 q.lf.length e2, .slice j3 q.ln.length e3], .bool true]) (by simp [results, Try.results30, go_sem, y1, y2, y3]) rfl ⟨_, _, _, rfl, ?_, ?_⟩
        · rw [← HQ4.out]
          exact (((HO4.out.setCell (a := ⟨W.heap.size + 1 + 1, 0, none⟩) hlt _).setCell (a := ⟨W.heap.size + 1 + 1, 1, none⟩) hlt _).setCell (a := ⟨W.heap.size + 1 + 1, 2, none⟩) hlt _).mono (by have := HSF.out.2; omega)
        · exact ((HS4.out.1.setCell (by simp; omega) _).setCell (by simp; omega) _).setCell (by simp; omega) _
    · have hn : ¬ Has (.slice f1 q.st.length i1) (.slice f2 q.lf.length i2) (.slice f3 q.ln.length i3) w1.heap.size := fun hh => by
        have h4 := (ho3.lt _ hh).1
        rw [hzc] at h4
        omega
      have hsw : W.heap.size ≤ w3.heap.size := Nat.le_trans HS2.2 hk3.size
      have HSW : Below W.heap.size W w3 := HS2.1.trans (hb3.mono (by omega))
      have hbx : W.heap.size + 1 + 1 < w1.heap.size := by omega
      have HB3 : Bx3 w3 w1.heap.size (.slice none 0 0) (.slice none 0 0) (.slice none 0 0) := ⟨g0, g1, g2, g3, gf⟩
      have HBF : Hid (Bx3 (((w3.setCell ⟨w1.heap.size, 0, none⟩ (.slice f1 q.st.length i1)).setCell ⟨w1.heap.size, 1, none⟩ (.slice f2 q.lf.length i2)).setCell ⟨w1.heap.size, 2, none⟩ (.slice f3 q.ln.length i3)) w1.heap.size (.slice f1 q.st.length i1) (.slice f2 q.lf.length i2) (.slice f3 q.ln.length i3)) := ((HB3.put0 _).put1 _).put2 _
      have HOF : Hid (Own3 (((w3.setCell ⟨w1.heap.size, 0, none⟩ (.slice f1 q.st.length i1)).setCell ⟨w1.heap.size, 1, none⟩ (.slice f2 q.lf.length i2)).setCell ⟨w1.heap.size, 2, none⟩ (.slice f3 q.ln.length i3)) 0 (.slice f1 q.st.length i1) (.slice f2 q.lf.length i2) (.slice f3 q.ln.length i3) q) := (((ho3.away (a := ⟨w1.heap.size, 0, none⟩) hn _).away (a := ⟨w1.heap.size, 1, none⟩) hn _).away (a := ⟨w1.heap.size, 2, none⟩) hn _).mono (Nat.zero_le _)
      have HSF : Hid (Since W.heap.size W (((w3.setCell ⟨w1.heap.size, 0, none⟩ (.slice f1 q.st.length i1)).setCell ⟨w1.heap.size, 1, none⟩ (.slice f2 q.lf.length i2)).setCell ⟨w1.heap.size, 2, none⟩ (.slice f3 q.ln.length i3))) := ⟨((HSW.setCell (p := ⟨w1.heap.size, 0, none⟩) (by show _ ≤ w1.heap.size; omega) _).setCell (p := ⟨w1.heap.size, 1, none⟩) (by show _ ≤ w1.heap.size; omega) _).setCell (p := ⟨w1.heap.size, 2, none⟩) (by show _ ≤ w1.heap.size; omega) _, by simpa [World.setCell] using hsw⟩
      have HQF : Hid (Bx3 (((w3.setCell ⟨w1.heap.size, 0, none⟩ (.slice f1 q.st.length i1)).setCell ⟨w1.heap.size, 1, none⟩ (.slice f2 q.lf.length i2)).setCell ⟨w1.heap.size, 2, none⟩ (.slice f3 q.ln.length i3)) (W.heap.size + 1 + 1) (.slice none 0 0) (.slice none 0 0) (.slice none 0 0)) := ((HQ3.other (by show w1.heap.size ≠ _; omega) _).other (by show w1.heap.size ≠ _; omega) _).other (by show w1.heap.size ≠ _; omega) _
      have HQQ : Hid (ok = true → q = out) := fun h4 => (hq h4).trans (HY.out h4)
      clear hq
      generalize hwF : (((w3.setCell ⟨w1.heap.size, 0, none⟩ (.slice f1 q.st.length i1)).setCell ⟨w1.heap.size, 1, none⟩ (.slice f2 q.lf.length i2)).setCell ⟨w1.heap.size, 2, none⟩ (.slice f3 q.ln.length i3)) = wF at *
      clear hwF
      obtain ⟨m0, m1, m2, m3, mf⟩ := HBF.out
      obtain ⟨y0, y1, y2, y3, yf⟩ := HQF.out
      cases ok with
      | false =>
        have HNN := HN.out rfl
        go_wp2
        refine bodyPost_ret (v := .tuple #[.agg #[.slice none 0 0, .slice none 0 0, .slice none 0 0], .bool false]) (by simp [results, Try.results30, go_sem, y1, y2, y3]) rfl ⟨_, _, _, rfl, by rw [← HNN]; exact Own3.nil _ _, ?_⟩
        exact ((HSF.out.1.setCell (by simp; omega) _).setCell (by simp; omega) _).setCell (by simp; omega) _
      | true =>
        have HQ4 : Hid (q = out) := HQQ.out rfl
        have L1 : Hid (q.st.length ≤ 1048576) := by show _ ≤ _; rw [HQ4.out]; exact HL.out.1
        have L2 : Hid (q.lf.length ≤ 1048576) := by show _ ≤ _; rw [HQ4.out]; exact HL.out.2.1
        have L3 : Hid (q.ln.length ≤ 1048576) := by show _ ≤ _; rw [HQ4.out]; exact HL.out.2.2
        go_wp2_with fail
        refine (l3Own_any wF 0 _ _ _ q HOF.out L1.out L2.out L3.out).mono ?_
        rintro e w4 ⟨x4, y4, z4, rfl, ho4, hb4⟩
        obtain ⟨j1, e1, rfl⟩ := ho4.st.shape
        obtain ⟨j2, e2, rfl⟩ := ho4.lf.shape
        obtain ⟨j3, e3, rfl⟩ := ho4.ln.shape
        have HS4 : Hid (Since W.heap.size W w4) := HSF.out.step hb4
        have hlt : W.heap.size + 1 + 1 < wF.heap.size := HQF.out.lt
        have HO4 : Hid (Own3 w4 wF.heap.size (.slice j1 q.st.length e1) (.slice j2 q.lf.length e2) (.slice j3 q.ln.length e3) q) := ho4
        clear y0 y1 y2 y3 yf m0 m1 m2 m3 mf
        obtain ⟨y0, y1, y2, y3, yf⟩ := HQF.out.below hb4
        clear hb4 ho4
        go_wp2
        refine bodyPost_ret (v := .tuple #[.agg #[.slice j1 q.st.length e1, .slice j2 q.lf.length e2, .slice j3 q.ln.length e3], .bool true]) (by simp [results, Try.results30, go_sem, y1, y2, y3]) rfl ⟨_, _, _, rfl, ?_, ?_⟩
        · rw [← HQ4.out]
          exact (((HO4.out.setCell (a := ⟨W.heap.size + 1 + 1, 0, none⟩) hlt _).setCell (a := ⟨W.heap.size + 1 + 1, 1, none⟩) hlt _).setCell (a := ⟨W.heap.size + 1 + 1, 2, none⟩) hlt _).mono (by have := HSF.out.2; omega)
        · exact ((HS4.out.1.setCell (by simp; omega) _).setCell (by simp; omega) _).setCell (by simp; omega) _
end Go.Proofs.Ytchddjidjfpehaa
