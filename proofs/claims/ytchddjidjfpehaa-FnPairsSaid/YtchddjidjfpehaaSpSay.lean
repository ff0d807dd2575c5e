/-
  'l3Step' of the model, a step's kind at a time.
-/
import Derived.Test.YtchddjidjfpehaaSpStep0
import Derived.Test.YtchddjidjfpehaaGoodSpec
import Derived.Test.YtchddjidjfpehaaJa
import Derived.Deep.RegionHeld3
namespace Go.Proofs.Ytchddjidjfpehaa
open Go.RowKit
set_option linter.unusedVariables false

theorem own_cell {w : World} {B r c : Nat} {s0 s1 : Int} (h : Own w B (.slice (some ⟨r, 0, none⟩) 2 c) [s0, s1]) : w.cell? ⟨r, 0, none⟩ = some (.int .i64 s0) ∧ w.cell? ⟨r, 1, none⟩ = some (.int .i64 s1) := by
  have e0 := World.ownsRow.cellAt (n := 2) h 0 (by omega)
  have e1 := World.ownsRow.cellAt (n := 2) h 1 (by omega)
  exact ⟨by simpa using e0, by simpa using e1⟩

set_option maxRecDepth 100000 in
set_option maxHeartbeats 4000000 in
theorem sp_say_0 (W : World) (B : Nat) (x y z : Value) (s0 s1 l0 l1 : Int) (ln : List HD)  (h : Own3 W B x y z ⟨[s0, s1], [l0, l1], ln⟩) (hB : B ≤ W.heap.size) (hl : ln.length ≤ 12) (hc : ln.length < 12) :
    Calls Try.prog 56 #[.agg #[x, y, z], .agg #[.int .i64 1, .int .i64 0]] W (StpPost W B x y z ⟨[s0, s1], [l0, l1], ln ++ [HD.mk 0 (s0 != 0)]⟩ true) := by
  obtain ⟨ln', hln'⟩ : ∃ ln', ln' = ln ++ [HD.mk 0 (s0 != 0)] := ⟨_, rfl⟩
  rw [← hln']
  have HLN : Hid (ln' = ln ++ [HD.mk 0 (s0 != 0)]) := hln'
  clear hln'
  obtain ⟨a1, c1, rfl, hc1⟩ := h.st.form
  obtain ⟨a2, c2, rfl, hc2⟩ := h.lf.form
  obtain ⟨r1, rfl, hB1, hr1, -, -⟩ := hc1.resolve_left (by simp)
  obtain ⟨r2, rfl, hB2, hr2, -, -⟩ := hc2.resolve_left (by simp)
  obtain ⟨a3, c3, rfl⟩ := h.ln.shape
  simp only [List.length_cons, List.length_nil, Nat.zero_add, Nat.reduceAdd] at *
  have HT : Hid (Stp W B (.slice (some ⟨r1, 0, none⟩) 2 c1) (.slice (some ⟨r2, 0, none⟩) 2 c2) (.slice a3 ln.length c3) (.slice (some ⟨r1, 0, none⟩) 2 c1) (.slice (some ⟨r2, 0, none⟩) 2 c2) (.slice a3 ln.length c3) 1 0 ⟨[s0, s1], [l0, l1], ln⟩ (((W.alloc (.cells #[.slice (some ⟨r1, 0, none⟩) 2 c1, .slice (some ⟨r2, 0, none⟩) 2 c2, .slice a3 ln.length c3] 40)).alloc (.cells #[.int .i64 1, .int .i64 0] 53)).alloc (.cells #[.slice none 0 0, .slice none 0 0, .slice none 0 0] 40))) := Stp.start 1 0 h hB
  clear h hc1 hc2 hB1 hB2 hr1 hr2
  go_enter Try.func56, Try.ntmps56
  go_wp2_with fail
  refine (l3Side_any _ _).mono ?_
  rintro e w1 ⟨rfl, rfl⟩
  rw [show sideB 0 = true from rfl]
  have q12 : (((ln.length : Nat) : Int) == 12) = false := by simp; omega
  go_wp2
  generalize hw : (((W.alloc (.cells #[.slice (some ⟨r1, 0, none⟩) 2 c1, .slice (some ⟨r2, 0, none⟩) 2 c2, .slice a3 ln.length c3] 40)).alloc (.cells #[.int .i64 1, .int .i64 0] 53)).alloc (.cells #[.slice none 0 0, .slice none 0 0, .slice none 0 0] 40)) = w2 at *
  clear hw
  have HDr : Stp W B (.slice (some ⟨r1, 0, none⟩) 2 c1) (.slice (some ⟨r2, 0, none⟩) 2 c2) (.slice a3 ln.length c3) (.slice (some ⟨r1, 0, none⟩) 2 c1) (.slice (some ⟨r2, 0, none⟩) 2 c2) (.slice a3 ln.length c3) 1 0 ⟨[s0, s1], [l0, l1], ln⟩ w2.drew := HT.out.drew
  have HDa : Stp W B (.slice (some ⟨r1, 0, none⟩) 2 c1) (.slice (some ⟨r2, 0, none⟩) 2 c2) (.slice a3 ln.length c3) (.slice (some ⟨r1, 0, none⟩) 2 c1) (.slice (some ⟨r2, 0, none⟩) 2 c2) (.slice a3 ln.length c3) 1 0 ⟨[s0, s1], [l0, l1], ln⟩ (w2.alloc (.cells #[.int .i64 0, .bool (s0 != 0)] 61)).drew := (HT.out.step ((Below.refl _ w2).alloc (Nat.le_refl _) _)).drew
  obtain ⟨c10, c11⟩ := own_cell HDr.own.st
  obtain ⟨c20, c21⟩ := own_cell HDa.own.st
  have HC : Hid (∀ ty, ∃ v' w', (Builtin.append_ #[38, 38] ty #[.slice a3 ln.length c3, .slice (some ⟨w2.heap.size, 0, none⟩) 1 1]).run Try.prog (w2.alloc (.cells #[.int .i64 0, .bool (s0 != 0)] 61)).drew = .ok v' w' ∧ GrewH (w2.alloc (.cells #[.int .i64 0, .bool (s0 != 0)] 61)).drew B (.slice a3 ln.length c3) ln' v' w') := fun ty => by
    rw [HLN.out]
    exact run_catH _ _ _ ln HDa.own.ln _ [HD.mk 0 (s0 != 0)] (one_hello w2 (HD.mk 0 (s0 != 0))) (by simp; omega) HDa.base ty
  clear q12
  obtain ⟨p0, p1, p2, p3, pf⟩ := HT.out.px
  obtain ⟨t0, t1, t2, -⟩ := HT.out.sx
  obtain ⟨y0, y1, y2, y3, yf⟩ := HT.out.rx
  refine wp_region_noPanic ?_
  refine wp_region_held_drew (S := (fun w' => w'.cell? ⟨W.heap.size, 0, none⟩ = some (.slice (some ⟨r1, 0, none⟩) 2 c1) ∧ w'.cell? ⟨W.heap.size + 1, 1, none⟩ = some (.int .i64 0) ∧ w'.cell? ⟨r1, 0, none⟩ = some (.int .i64 s0))) (by kernel_rfl) ?_ (fun hHeld => ?_)
  · exact ⟨HDr.px.c0, HDr.sx.c1, c10⟩
  refine wpAnyH_take (i := 0) (v := .pointer (some ⟨W.heap.size, 2, none⟩)) rfl (by kernel_rfl) (by kernel_rfl) (by kernel_rfl) (fun _ _ _ h => h) (Or.inl ⟨by rfl, ?_⟩) (by assumption) ?_
  · intro w hSw
    go_simp
  simp only [Act.put, List.setIfInBounds_toArray]
  refine wpAnyH_take (i := 2) (v := .pointer (some ⟨W.heap.size + 1, 1, none⟩)) rfl (by kernel_rfl) (by kernel_rfl) (by kernel_rfl) (fun _ _ _ h => h) (Or.inl ⟨by rfl, ?_⟩) (by assumption) ?_
  · intro w hSw
    go_simp
  simp only [Act.put]
  refine wpAnyH_take (i := 3) (v := .int .i64 0) rfl (by kernel_rfl) (by kernel_rfl) (by kernel_rfl) (fun _ _ _ h => h) (Or.inl ⟨by rfl, ?_⟩) (by assumption) ?_
  · intro w hSw
    go_simp
  simp only [Act.put]
  refine wpAnyH_take (i := 4) (v := .pointer (some ⟨W.heap.size, 0, none⟩)) rfl (by kernel_rfl) (by kernel_rfl) (by kernel_rfl) (fun _ _ _ h => h) (Or.inl ⟨by rfl, ?_⟩) (by assumption) ?_
  · intro w hSw
    go_simp
  simp only [Act.put]
  refine wpAnyH_take (i := 5) (v := .slice (some ⟨r1, 0, none⟩) 2 c1) rfl (by kernel_rfl) (by kernel_rfl) (by kernel_rfl) (fun _ _ _ h => h) (Or.inl ⟨by rfl, ?_⟩) (by assumption) ?_
  · intro w hSw
    go_simp
  simp only [Act.put]
  refine wpAnyH_take (i := 6) (v := .pointer (some ⟨W.heap.size + 1, 1, none⟩)) rfl (by kernel_rfl) (by kernel_rfl) (by kernel_rfl) (fun _ _ _ h => h) (Or.inl ⟨by rfl, ?_⟩) (by assumption) ?_
  · intro w hSw
    go_simp
  simp only [Act.put]
  refine wpAnyH_take (i := 7) (v := .int .i64 0) rfl (by kernel_rfl) (by kernel_rfl) (by kernel_rfl) (fun _ _ _ h => h) (Or.inl ⟨by rfl, ?_⟩) (by assumption) ?_
  · intro w hSw
    go_simp
  simp only [Act.put]
  refine wpAnyH_take (i := 8) (v := .pointer (some ⟨r1, 0, none⟩)) rfl (by kernel_rfl) (by kernel_rfl) (by kernel_rfl) (fun _ _ _ h => h) (Or.inl ⟨by rfl, ?_⟩) (by assumption) ?_
  · intro w hSw
    go_simp
  simp only [Act.put]
  refine wpAnyH_take (i := 9) (v := .int .i64 s0) rfl (by kernel_rfl) (by kernel_rfl) (by kernel_rfl) (fun _ _ _ h => h) (Or.inl ⟨by rfl, ?_⟩) (by assumption) ?_
  · intro w hSw
    go_simp
  simp only [Act.put]
  refine wpAnyH_take (i := 10) (v := .bool (s0 != 0)) rfl (by kernel_rfl) (by kernel_rfl) (by kernel_rfl) (fun _ _ _ h => h) (Or.inl ⟨by rfl, ?_⟩) (by assumption) ?_
  · intro w hSw
    go_simp
  simp only [Act.put]
  refine wpAnyH_take (i := 11) (v := .agg #[.int .i64 0, .bool (s0 != 0)]) rfl (by kernel_rfl) (by kernel_rfl) (by kernel_rfl) (fun _ _ _ h => h) (Or.inl ⟨by rfl, ?_⟩) (by assumption) ?_
  · intro w hSw
    go_simp
  simp only [Act.put]
  refine wpAnyH_ready (rs := [1, 12]) (by kernel_rfl) (by simp) ?_
  refine AllReadyH.cons rfl (fun K hK => ?_) (AllReadyH.cons rfl (fun K hK => ?_) AllReadyH.nil)
  · go_simp
    refine hK.out _ _ ?_ (fun hHeld => ?_)
    · exact ⟨HDr.px.c0, HDr.sx.c1, c10⟩
    clear hK K
    try simp only [Act.put, List.setIfInBounds_toArray, List.set_cons_zero, List.set_cons_succ]
    refine wpAnyH_ready (rs := [12]) (by kernel_rfl) (by simp) ?_
    refine AllReadyH.cons rfl (fun K hK => ?_) AllReadyH.nil
    go_simp
    refine hK.out _ _ ?_ (fun hHeld => ?_)
    · exact ⟨HDa.px.c0, HDa.sx.c1, c20⟩
    clear hK K
    try simp only [Act.put, List.setIfInBounds_toArray, List.set_cons_zero, List.set_cons_succ]
    refine wpAnyH_ready (rs := [13]) (by kernel_rfl) (by simp) ?_
    refine AllReadyH.cons rfl (fun K hK => ?_) AllReadyH.nil
    refine step_cat (by rfl) (.tmp 28) (.tmp 39) 38 (by rfl) (.slice a3 ln.length c3) (.slice (some ⟨w2.heap.size, 0, none⟩) 1 1) (by rfl) (by rfl) _ HC.out ?_
    intro v4 w4 hg4
    obtain ⟨b4, d4, rfl⟩ := hg4.own.shape
    have HM := HDa.mid hg4
    obtain ⟨c30, c31⟩ := own_cell HM.2.2.1
    obtain ⟨c40, c41⟩ := own_cell HM.2.2.2.own.st
    obtain ⟨n0, n1, n2, n3, nf⟩ := HM.1
    refine hK.out _ _ ?_ (fun hHeld => ?_)
    · exact ⟨HM.1.c0, HM.2.1.c1, c30⟩
    clear hK K
    try simp only [Act.put, List.setIfInBounds_toArray]
    refine wpAnyH_take (i := 14) (v := .pointer (some ⟨W.heap.size, 2, none⟩)) rfl (by kernel_rfl) (by kernel_rfl) (by kernel_rfl) (fun _ _ _ h => h) (Or.inl ⟨by rfl, ?_⟩) (by assumption) ?_
    · intro w hSw
      go_simp
    simp only [Act.put]
    refine wpAnyH_ready (rs := [15]) (by kernel_rfl) (by simp) ?_
    refine AllReadyH.cons rfl (fun K hK => ?_) AllReadyH.nil
    go_simp
    refine hK.out _ _ ?_ (fun hHeld => ?_)
    · exact ⟨HM.2.2.2.px.c0, HM.2.2.2.sx.c1, c40⟩
    clear hK K
    try simp only [Act.put, List.setIfInBounds_toArray, List.set_cons_zero, List.set_cons_succ]
    refine wpAnyH_done (by kernel_rfl) ?_ _
    refine NoPanic.normal ?_
    have HF : Hid (Stp W B (.slice (some ⟨r1, 0, none⟩) 2 c1) (.slice (some ⟨r2, 0, none⟩) 2 c2) (.slice a3 ln.length c3) (.slice (some ⟨r1, 0, none⟩) 2 c1) (.slice (some ⟨r2, 0, none⟩) 2 c2) (.slice b4 ln'.length d4) 1 0 ⟨[s0, s1], [l0, l1], ln'⟩ (w4.setCell ⟨W.heap.size, 2, none⟩ (.slice b4 ln'.length d4))) := HM.2.2.2
    clear p0 p1 p2 p3 pf t0 t1 t2 HDr HDa HM c10 c11 c20 c21 c30 c31 c40 c41 n0 n1 n2 n3 nf hg4
    clear y0 y1 y2 y3 yf
    obtain ⟨p0, p1, p2, p3, pf⟩ := HF.out.px
    obtain ⟨y0, y1, y2, y3, yf⟩ := HF.out.rx
    go_wp2
    refine bodyPost_ret (v := .tuple #[.agg #[.slice (some ⟨r1, 0, none⟩) 2 c1, .slice (some ⟨r2, 0, none⟩) 2 c2, .slice b4 ln'.length d4], .bool true]) (by simp [results, Try.results56, go_sem, y1, y2, y3]) rfl ?_
    exact HF.out.fin true
  · go_simp
    refine hK.out _ _ ?_ (fun hHeld => ?_)
    · exact ⟨HDa.px.c0, HDa.sx.c1, c20⟩
    clear hK K
    try simp only [Act.put, List.setIfInBounds_toArray, List.set_cons_zero, List.set_cons_succ]
    refine wpAnyH_ready (rs := [1]) (by kernel_rfl) (by simp) ?_
    refine AllReadyH.cons rfl (fun K hK => ?_) AllReadyH.nil
    go_simp
    refine hK.out _ _ ?_ (fun hHeld => ?_)
    · exact ⟨HDa.px.c0, HDa.sx.c1, c20⟩
    clear hK K
    try simp only [Act.put, List.setIfInBounds_toArray, List.set_cons_zero, List.set_cons_succ]
    refine wpAnyH_ready (rs := [13]) (by kernel_rfl) (by simp) ?_
    refine AllReadyH.cons rfl (fun K hK => ?_) AllReadyH.nil
    refine step_cat (by rfl) (.tmp 28) (.tmp 39) 38 (by rfl) (.slice a3 ln.length c3) (.slice (some ⟨w2.heap.size, 0, none⟩) 1 1) (by rfl) (by rfl) _ HC.out ?_
    intro v4 w4 hg4
    obtain ⟨b4, d4, rfl⟩ := hg4.own.shape
    have HM := HDa.mid hg4
    obtain ⟨c30, c31⟩ := own_cell HM.2.2.1
    obtain ⟨c40, c41⟩ := own_cell HM.2.2.2.own.st
    obtain ⟨n0, n1, n2, n3, nf⟩ := HM.1
    refine hK.out _ _ ?_ (fun hHeld => ?_)
    · exact ⟨HM.1.c0, HM.2.1.c1, c30⟩
    clear hK K
    try simp only [Act.put, List.setIfInBounds_toArray]
    refine wpAnyH_take (i := 14) (v := .pointer (some ⟨W.heap.size, 2, none⟩)) rfl (by kernel_rfl) (by kernel_rfl) (by kernel_rfl) (fun _ _ _ h => h) (Or.inl ⟨by rfl, ?_⟩) (by assumption) ?_
    · intro w hSw
      go_simp
    simp only [Act.put]
    refine wpAnyH_ready (rs := [15]) (by kernel_rfl) (by simp) ?_
    refine AllReadyH.cons rfl (fun K hK => ?_) AllReadyH.nil
    go_simp
    refine hK.out _ _ ?_ (fun hHeld => ?_)
    · exact ⟨HM.2.2.2.px.c0, HM.2.2.2.sx.c1, c40⟩
    clear hK K
    try simp only [Act.put, List.setIfInBounds_toArray, List.set_cons_zero, List.set_cons_succ]
    refine wpAnyH_done (by kernel_rfl) ?_ _
    refine NoPanic.normal ?_
    have HF : Hid (Stp W B (.slice (some ⟨r1, 0, none⟩) 2 c1) (.slice (some ⟨r2, 0, none⟩) 2 c2) (.slice a3 ln.length c3) (.slice (some ⟨r1, 0, none⟩) 2 c1) (.slice (some ⟨r2, 0, none⟩) 2 c2) (.slice b4 ln'.length d4) 1 0 ⟨[s0, s1], [l0, l1], ln'⟩ (w4.setCell ⟨W.heap.size, 2, none⟩ (.slice b4 ln'.length d4))) := HM.2.2.2
    clear p0 p1 p2 p3 pf t0 t1 t2 HDr HDa HM c10 c11 c20 c21 c30 c31 c40 c41 n0 n1 n2 n3 nf hg4
    clear y0 y1 y2 y3 yf
    obtain ⟨p0, p1, p2, p3, pf⟩ := HF.out.px
    obtain ⟨y0, y1, y2, y3, yf⟩ := HF.out.rx
    go_wp2
    refine bodyPost_ret (v := .tuple #[.agg #[.slice (some ⟨r1, 0, none⟩) 2 c1, .slice (some ⟨r2, 0, none⟩) 2 c2, .slice b4 ln'.length d4], .bool true]) (by simp [results, Try.results56, go_sem, y1, y2, y3]) rfl ?_
    exact HF.out.fin true

set_option maxRecDepth 100000 in
set_option maxHeartbeats 4000000 in
theorem sp_say_1 (W : World) (B : Nat) (x y z : Value) (s0 s1 l0 l1 : Int) (ln : List HD)  (h : Own3 W B x y z ⟨[s0, s1], [l0, l1], ln⟩) (hB : B ≤ W.heap.size) (hl : ln.length ≤ 12) (hc : ln.length < 12) :
    Calls Try.prog 56 #[.agg #[x, y, z], .agg #[.int .i64 1, .int .i64 1]] W (StpPost W B x y z ⟨[s0, s1], [l0, l1], ln ++ [HD.mk 1 (s1 != 0)]⟩ true) := by
  obtain ⟨ln', hln'⟩ : ∃ ln', ln' = ln ++ [HD.mk 1 (s1 != 0)] := ⟨_, rfl⟩
  rw [← hln']
  have HLN : Hid (ln' = ln ++ [HD.mk 1 (s1 != 0)]) := hln'
  clear hln'
  obtain ⟨a1, c1, rfl, hc1⟩ := h.st.form
  obtain ⟨a2, c2, rfl, hc2⟩ := h.lf.form
  obtain ⟨r1, rfl, hB1, hr1, -, -⟩ := hc1.resolve_left (by simp)
  obtain ⟨r2, rfl, hB2, hr2, -, -⟩ := hc2.resolve_left (by simp)
  obtain ⟨a3, c3, rfl⟩ := h.ln.shape
  simp only [List.length_cons, List.length_nil, Nat.zero_add, Nat.reduceAdd] at *
  have HT : Hid (Stp W B (.slice (some ⟨r1, 0, none⟩) 2 c1) (.slice (some ⟨r2, 0, none⟩) 2 c2) (.slice a3 ln.length c3) (.slice (some ⟨r1, 0, none⟩) 2 c1) (.slice (some ⟨r2, 0, none⟩) 2 c2) (.slice a3 ln.length c3) 1 1 ⟨[s0, s1], [l0, l1], ln⟩ (((W.alloc (.cells #[.slice (some ⟨r1, 0, none⟩) 2 c1, .slice (some ⟨r2, 0, none⟩) 2 c2, .slice a3 ln.length c3] 40)).alloc (.cells #[.int .i64 1, .int .i64 1] 53)).alloc (.cells #[.slice none 0 0, .slice none 0 0, .slice none 0 0] 40))) := Stp.start 1 1 h hB
  clear h hc1 hc2 hB1 hB2 hr1 hr2
  go_enter Try.func56, Try.ntmps56
  go_wp2_with fail
  refine (l3Side_any _ _).mono ?_
  rintro e w1 ⟨rfl, rfl⟩
  rw [show sideB 1 = true from rfl]
  have q12 : (((ln.length : Nat) : Int) == 12) = false := by simp; omega
  go_wp2
  generalize hw : (((W.alloc (.cells #[.slice (some ⟨r1, 0, none⟩) 2 c1, .slice (some ⟨r2, 0, none⟩) 2 c2, .slice a3 ln.length c3] 40)).alloc (.cells #[.int .i64 1, .int .i64 1] 53)).alloc (.cells #[.slice none 0 0, .slice none 0 0, .slice none 0 0] 40)) = w2 at *
  clear hw
  have HDr : Stp W B (.slice (some ⟨r1, 0, none⟩) 2 c1) (.slice (some ⟨r2, 0, none⟩) 2 c2) (.slice a3 ln.length c3) (.slice (some ⟨r1, 0, none⟩) 2 c1) (.slice (some ⟨r2, 0, none⟩) 2 c2) (.slice a3 ln.length c3) 1 1 ⟨[s0, s1], [l0, l1], ln⟩ w2.drew := HT.out.drew
  have HDa : Stp W B (.slice (some ⟨r1, 0, none⟩) 2 c1) (.slice (some ⟨r2, 0, none⟩) 2 c2) (.slice a3 ln.length c3) (.slice (some ⟨r1, 0, none⟩) 2 c1) (.slice (some ⟨r2, 0, none⟩) 2 c2) (.slice a3 ln.length c3) 1 1 ⟨[s0, s1], [l0, l1], ln⟩ (w2.alloc (.cells #[.int .i64 1, .bool (s1 != 0)] 61)).drew := (HT.out.step ((Below.refl _ w2).alloc (Nat.le_refl _) _)).drew
  obtain ⟨c10, c11⟩ := own_cell HDr.own.st
  obtain ⟨c20, c21⟩ := own_cell HDa.own.st
  have HC : Hid (∀ ty, ∃ v' w', (Builtin.append_ #[38, 38] ty #[.slice a3 ln.length c3, .slice (some ⟨w2.heap.size, 0, none⟩) 1 1]).run Try.prog (w2.alloc (.cells #[.int .i64 1, .bool (s1 != 0)] 61)).drew = .ok v' w' ∧ GrewH (w2.alloc (.cells #[.int .i64 1, .bool (s1 != 0)] 61)).drew B (.slice a3 ln.length c3) ln' v' w') := fun ty => by
    rw [HLN.out]
    exact run_catH _ _ _ ln HDa.own.ln _ [HD.mk 1 (s1 != 0)] (one_hello w2 (HD.mk 1 (s1 != 0))) (by simp; omega) HDa.base ty
  clear q12
  obtain ⟨p0, p1, p2, p3, pf⟩ := HT.out.px
  obtain ⟨t0, t1, t2, -⟩ := HT.out.sx
  obtain ⟨y0, y1, y2, y3, yf⟩ := HT.out.rx
  refine wp_region_noPanic ?_
  refine wp_region_held_drew (S := (fun w' => w'.cell? ⟨W.heap.size, 0, none⟩ = some (.slice (some ⟨r1, 0, none⟩) 2 c1) ∧ w'.cell? ⟨W.heap.size + 1, 1, none⟩ = some (.int .i64 1) ∧ w'.cell? ⟨r1, 1, none⟩ = some (.int .i64 s1))) (by kernel_rfl) ?_ (fun hHeld => ?_)
  · exact ⟨HDr.px.c0, HDr.sx.c1, c11⟩
  refine wpAnyH_take (i := 0) (v := .pointer (some ⟨W.heap.size, 2, none⟩)) rfl (by kernel_rfl) (by kernel_rfl) (by kernel_rfl) (fun _ _ _ h => h) (Or.inl ⟨by rfl, ?_⟩) (by assumption) ?_
  · intro w hSw
    go_simp
  simp only [Act.put, List.setIfInBounds_toArray]
  refine wpAnyH_take (i := 2) (v := .pointer (some ⟨W.heap.size + 1, 1, none⟩)) rfl (by kernel_rfl) (by kernel_rfl) (by kernel_rfl) (fun _ _ _ h => h) (Or.inl ⟨by rfl, ?_⟩) (by assumption) ?_
  · intro w hSw
    go_simp
  simp only [Act.put]
  refine wpAnyH_take (i := 3) (v := .int .i64 1) rfl (by kernel_rfl) (by kernel_rfl) (by kernel_rfl) (fun _ _ _ h => h) (Or.inl ⟨by rfl, ?_⟩) (by assumption) ?_
  · intro w hSw
    go_simp
  simp only [Act.put]
  refine wpAnyH_take (i := 4) (v := .pointer (some ⟨W.heap.size, 0, none⟩)) rfl (by kernel_rfl) (by kernel_rfl) (by kernel_rfl) (fun _ _ _ h => h) (Or.inl ⟨by rfl, ?_⟩) (by assumption) ?_
  · intro w hSw
    go_simp
  simp only [Act.put]
  refine wpAnyH_take (i := 5) (v := .slice (some ⟨r1, 0, none⟩) 2 c1) rfl (by kernel_rfl) (by kernel_rfl) (by kernel_rfl) (fun _ _ _ h => h) (Or.inl ⟨by rfl, ?_⟩) (by assumption) ?_
  · intro w hSw
    go_simp
  simp only [Act.put]
  refine wpAnyH_take (i := 6) (v := .pointer (some ⟨W.heap.size + 1, 1, none⟩)) rfl (by kernel_rfl) (by kernel_rfl) (by kernel_rfl) (fun _ _ _ h => h) (Or.inl ⟨by rfl, ?_⟩) (by assumption) ?_
  · intro w hSw
    go_simp
  simp only [Act.put]
  refine wpAnyH_take (i := 7) (v := .int .i64 1) rfl (by kernel_rfl) (by kernel_rfl) (by kernel_rfl) (fun _ _ _ h => h) (Or.inl ⟨by rfl, ?_⟩) (by assumption) ?_
  · intro w hSw
    go_simp
  simp only [Act.put]
  refine wpAnyH_take (i := 8) (v := .pointer (some ⟨r1, 1, none⟩)) rfl (by kernel_rfl) (by kernel_rfl) (by kernel_rfl) (fun _ _ _ h => h) (Or.inl ⟨by rfl, ?_⟩) (by assumption) ?_
  · intro w hSw
    go_simp
  simp only [Act.put]
  refine wpAnyH_take (i := 9) (v := .int .i64 s1) rfl (by kernel_rfl) (by kernel_rfl) (by kernel_rfl) (fun _ _ _ h => h) (Or.inl ⟨by rfl, ?_⟩) (by assumption) ?_
  · intro w hSw
    go_simp
  simp only [Act.put]
  refine wpAnyH_take (i := 10) (v := .bool (s1 != 0)) rfl (by kernel_rfl) (by kernel_rfl) (by kernel_rfl) (fun _ _ _ h => h) (Or.inl ⟨by rfl, ?_⟩) (by assumption) ?_
  · intro w hSw
    go_simp
  simp only [Act.put]
  refine wpAnyH_take (i := 11) (v := .agg #[.int .i64 1, .bool (s1 != 0)]) rfl (by kernel_rfl) (by kernel_rfl) (by kernel_rfl) (fun _ _ _ h => h) (Or.inl ⟨by rfl, ?_⟩) (by assumption) ?_
  · intro w hSw
    go_simp
  simp only [Act.put]
  refine wpAnyH_ready (rs := [1, 12]) (by kernel_rfl) (by simp) ?_
  refine AllReadyH.cons rfl (fun K hK => ?_) (AllReadyH.cons rfl (fun K hK => ?_) AllReadyH.nil)
  · go_simp
    refine hK.out _ _ ?_ (fun hHeld => ?_)
    · exact ⟨HDr.px.c0, HDr.sx.c1, c11⟩
    clear hK K
    try simp only [Act.put, List.setIfInBounds_toArray, List.set_cons_zero, List.set_cons_succ]
    refine wpAnyH_ready (rs := [12]) (by kernel_rfl) (by simp) ?_
    refine AllReadyH.cons rfl (fun K hK => ?_) AllReadyH.nil
    go_simp
    refine hK.out _ _ ?_ (fun hHeld => ?_)
    · exact ⟨HDa.px.c0, HDa.sx.c1, c21⟩
    clear hK K
    try simp only [Act.put, List.setIfInBounds_toArray, List.set_cons_zero, List.set_cons_succ]
    refine wpAnyH_ready (rs := [13]) (by kernel_rfl) (by simp) ?_
    refine AllReadyH.cons rfl (fun K hK => ?_) AllReadyH.nil
    refine step_cat (by rfl) (.tmp 28) (.tmp 39) 38 (by rfl) (.slice a3 ln.length c3) (.slice (some ⟨w2.heap.size, 0, none⟩) 1 1) (by rfl) (by rfl) _ HC.out ?_
    intro v4 w4 hg4
    obtain ⟨b4, d4, rfl⟩ := hg4.own.shape
    have HM := HDa.mid hg4
    obtain ⟨c30, c31⟩ := own_cell HM.2.2.1
    obtain ⟨c40, c41⟩ := own_cell HM.2.2.2.own.st
    obtain ⟨n0, n1, n2, n3, nf⟩ := HM.1
    refine hK.out _ _ ?_ (fun hHeld => ?_)
    · exact ⟨HM.1.c0, HM.2.1.c1, c31⟩
    clear hK K
    try simp only [Act.put, List.setIfInBounds_toArray]
    refine wpAnyH_take (i := 14) (v := .pointer (some ⟨W.heap.size, 2, none⟩)) rfl (by kernel_rfl) (by kernel_rfl) (by kernel_rfl) (fun _ _ _ h => h) (Or.inl ⟨by rfl, ?_⟩) (by assumption) ?_
    · intro w hSw
      go_simp
    simp only [Act.put]
    refine wpAnyH_ready (rs := [15]) (by kernel_rfl) (by simp) ?_
    refine AllReadyH.cons rfl (fun K hK => ?_) AllReadyH.nil
    go_simp
    refine hK.out _ _ ?_ (fun hHeld => ?_)
    · exact ⟨HM.2.2.2.px.c0, HM.2.2.2.sx.c1, c41⟩
    clear hK K
    try simp only [Act.put, List.setIfInBounds_toArray, List.set_cons_zero, List.set_cons_succ]
    refine wpAnyH_done (by kernel_rfl) ?_ _
    refine NoPanic.normal ?_
    have HF : Hid (Stp W B (.slice (some ⟨r1, 0, none⟩) 2 c1) (.slice (some ⟨r2, 0, none⟩) 2 c2) (.slice a3 ln.length c3) (.slice (some ⟨r1, 0, none⟩) 2 c1) (.slice (some ⟨r2, 0, none⟩) 2 c2) (.slice b4 ln'.length d4) 1 1 ⟨[s0, s1], [l0, l1], ln'⟩ (w4.setCell ⟨W.heap.size, 2, none⟩ (.slice b4 ln'.length d4))) := HM.2.2.2
    clear p0 p1 p2 p3 pf t0 t1 t2 HDr HDa HM c10 c11 c20 c21 c30 c31 c40 c41 n0 n1 n2 n3 nf hg4
    clear y0 y1 y2 y3 yf
    obtain ⟨p0, p1, p2, p3, pf⟩ := HF.out.px
    obtain ⟨y0, y1, y2, y3, yf⟩ := HF.out.rx
    go_wp2
    refine bodyPost_ret (v := .tuple #[.agg #[.slice (some ⟨r1, 0, none⟩) 2 c1, .slice (some ⟨r2, 0, none⟩) 2 c2, .slice b4 ln'.length d4], .bool true]) (by simp [results, Try.results56, go_sem, y1, y2, y3]) rfl ?_
    exact HF.out.fin true
  · go_simp
    refine hK.out _ _ ?_ (fun hHeld => ?_)
    · exact ⟨HDa.px.c0, HDa.sx.c1, c21⟩
    clear hK K
    try simp only [Act.put, List.setIfInBounds_toArray, List.set_cons_zero, List.set_cons_succ]
    refine wpAnyH_ready (rs := [1]) (by kernel_rfl) (by simp) ?_
    refine AllReadyH.cons rfl (fun K hK => ?_) AllReadyH.nil
    go_simp
    refine hK.out _ _ ?_ (fun hHeld => ?_)
    · exact ⟨HDa.px.c0, HDa.sx.c1, c21⟩
    clear hK K
    try simp only [Act.put, List.setIfInBounds_toArray, List.set_cons_zero, List.set_cons_succ]
    refine wpAnyH_ready (rs := [13]) (by kernel_rfl) (by simp) ?_
    refine AllReadyH.cons rfl (fun K hK => ?_) AllReadyH.nil
    refine step_cat (by rfl) (.tmp 28) (.tmp 39) 38 (by rfl) (.slice a3 ln.length c3) (.slice (some ⟨w2.heap.size, 0, none⟩) 1 1) (by rfl) (by rfl) _ HC.out ?_
    intro v4 w4 hg4
    obtain ⟨b4, d4, rfl⟩ := hg4.own.shape
    have HM := HDa.mid hg4
    obtain ⟨c30, c31⟩ := own_cell HM.2.2.1
    obtain ⟨c40, c41⟩ := own_cell HM.2.2.2.own.st
    obtain ⟨n0, n1, n2, n3, nf⟩ := HM.1
    refine hK.out _ _ ?_ (fun hHeld => ?_)
    · exact ⟨HM.1.c0, HM.2.1.c1, c31⟩
    clear hK K
    try simp only [Act.put, List.setIfInBounds_toArray]
    refine wpAnyH_take (i := 14) (v := .pointer (some ⟨W.heap.size, 2, none⟩)) rfl (by kernel_rfl) (by kernel_rfl) (by kernel_rfl) (fun _ _ _ h => h) (Or.inl ⟨by rfl, ?_⟩) (by assumption) ?_
    · intro w hSw
      go_simp
    simp only [Act.put]
    refine wpAnyH_ready (rs := [15]) (by kernel_rfl) (by simp) ?_
    refine AllReadyH.cons rfl (fun K hK => ?_) AllReadyH.nil
    go_simp
    refine hK.out _ _ ?_ (fun hHeld => ?_)
    · exact ⟨HM.2.2.2.px.c0, HM.2.2.2.sx.c1, c41⟩
    clear hK K
    try simp only [Act.put, List.setIfInBounds_toArray, List.set_cons_zero, List.set_cons_succ]
    refine wpAnyH_done (by kernel_rfl) ?_ _
    refine NoPanic.normal ?_
    have HF : Hid (Stp W B (.slice (some ⟨r1, 0, none⟩) 2 c1) (.slice (some ⟨r2, 0, none⟩) 2 c2) (.slice a3 ln.length c3) (.slice (some ⟨r1, 0, none⟩) 2 c1) (.slice (some ⟨r2, 0, none⟩) 2 c2) (.slice b4 ln'.length d4) 1 1 ⟨[s0, s1], [l0, l1], ln'⟩ (w4.setCell ⟨W.heap.size, 2, none⟩ (.slice b4 ln'.length d4))) := HM.2.2.2
    clear p0 p1 p2 p3 pf t0 t1 t2 HDr HDa HM c10 c11 c20 c21 c30 c31 c40 c41 n0 n1 n2 n3 nf hg4
    clear y0 y1 y2 y3 yf
    obtain ⟨p0, p1, p2, p3, pf⟩ := HF.out.px
    obtain ⟨y0, y1, y2, y3, yf⟩ := HF.out.rx
    go_wp2
    refine bodyPost_ret (v := .tuple #[.agg #[.slice (some ⟨r1, 0, none⟩) 2 c1, .slice (some ⟨r2, 0, none⟩) 2 c2, .slice b4 ln'.length d4], .bool true]) (by simp [results, Try.results56, go_sem, y1, y2, y3]) rfl ?_
    exact HF.out.fin true

end Go.Proofs.Ytchddjidjfpehaa
