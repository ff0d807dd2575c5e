/-
  One left out of a list: 'slices.Grow' of nothing, 'slices.Concat' of two, 'without'.
-/
import Derived.Test.YthlbmkefjjckaacGrGood
import Derived.Lib.AppendZeros
namespace Go.Proofs.Ythlbmkefjjckaac
open Go.RowKit
set_option linter.unusedVariables false

set_option maxRecDepth 100000 in
set_option maxHeartbeats 2000000 in
theorem growEd_any (W : World) (n : Nat) (hn : n ≤ 2097152) :
    Calls Try.prog 142 #[.slice none 0 0, .int .i64 (n : Int)] W fun e W' => ∃ u, e = .returned u ∧ OwnEd W' W.heap.size u [] ∧ Below W.heap.size W W' := by
  have hw : IntKind.i64.wrap (n : Int) = (n : Int) := by rw [IntKind.wrap_i64]; omega
  have hneg : ¬ ((n : Int) < 0) := by omega
  by_cases h0 : n = 0
  · subst h0
    have HB : Hid (Below W.heap.size W W) := Below.refl _ _
    go_enter Try.func142, Try.ntmps142
    go_wp2
    go_ret
    exact ⟨_, rfl, OwnEd.nil _ _, HB.out⟩
  · have hpos : 0 < (n : Int) := by omega
    obtain ⟨i0, hi, hz0, hz1, hz2⟩ := info_parts infoEd
    have HR : Hid (∀ ty, ∃ c m cur, n ≤ c ∧ c ≤ maxLen ∧ cur.size = c * 3 ∧ (Builtin.append_ #[54, 3] ty #[.slice none 0 0, .int .i64 (n : Int)]).run Try.prog W = .ok (.slice (some ⟨W.heap.size, 0, none⟩) m c) (W.drew.alloc (.cells cur 61))) := fun ty => by
      refine ⟨_, _, _, grownCap_ge W n 0 61, grownCap_le_maxLen W n 0 61 (by unfold maxLen; omega), ?_, Lib.run_append_nil_zeros (P := Try.prog) W 54 3 ty 61 i0 _ .i64 .i64 Try.underlying54 Try.underlying3 hi hz0 n (by omega) (by omega) (by omega) (by rw [hz2]; omega)⟩
      have := grownCap_ge W n 0 61
      simp [Builtin.zeroCells, Value.cells]
      omega
    clear hi hz0 hz1 hz2
    go_enter Try.func142, Try.ntmps142
    obtain ⟨c, m, cur, hc1, hc2, hc3, hrun⟩ := HR.out 54
    have HO : Hid (OwnEd (W.drew.alloc (.cells cur 61)) W.heap.size (.slice (some ⟨W.heap.size, 0, none⟩) 0 c) [] ∧ Below W.heap.size W (W.drew.alloc (.cells cur 61))) := ⟨World.ownsRow_made (base := W.heap.size) (e := 61) (size := 3) W.drew cur c (Nat.le_refl _) hc2 hc3, ((Below.refl _ W).drew).alloc (Nat.le_refl _) _⟩
    have HRR : Hid ((Builtin.append_ #[54, 3] 54 #[.slice none 0 0, .int .i64 (n : Int)]).run Try.prog W = .ok (.slice (some ⟨W.heap.size, 0, none⟩) m c) (W.drew.alloc (.cells cur 61))) := hrun
    clear hrun hc1 hc2 hc3
    go_wp2_with (at_builtin; refine Lib.wpList_append_run _ rfl _ _ _ _ rfl _ _ rfl rfl _ _ HRR.out ?_)
    go_ret
    exact ⟨_, rfl, HO.out⟩

set_option maxRecDepth 100000 in
set_option maxHeartbeats 4000000 in
theorem concatEd_any (W : World) (b : Nat) (a1 a2 : Option Addr) (c1 c2 : Nat) (xs ys : List EdD) (hb : b < W.heap.size) (h0 : W.cell? ⟨b, 0, none⟩ = some (.slice a1 xs.length c1)) (h1 : W.cell? ⟨b, 1, none⟩ = some (.slice a2 ys.length c2))
    (hs1 : ∀ w', Since W.heap.size W w' → Src w' (.slice a1 xs.length c1) xs.length (cellsEd xs)) (hs2 : ∀ w', Since W.heap.size W w' → Src w' (.slice a2 ys.length c2) ys.length (cellsEd ys)) (hlx : xs.length ≤ 1048576) (hly : ys.length ≤ 1048576) :
    Calls Try.prog 131 #[.slice (some ⟨b, 0, none⟩) 2 2] W fun e W' => ∃ u, e = .returned u ∧ OwnEd W' W.heap.size u (xs ++ ys) ∧ Below W.heap.size W W' := by
  have HC : Hid (∀ w', Since W.heap.size W w' → w'.cell? ⟨b, 0, none⟩ = some (.slice a1 xs.length c1) ∧ w'.cell? ⟨b, 1, none⟩ = some (.slice a2 ys.length c2)) := fun w' hs => ⟨(hs.1.cell (p := ⟨b, 0, none⟩) hb).trans h0, (hs.1.cell (p := ⟨b, 1, none⟩) hb).trans h1⟩
  have H1 : Hid (∀ w', Since W.heap.size W w' → Src w' (.slice a1 xs.length c1) xs.length (cellsEd xs)) := hs1
  have H2 : Hid (∀ w', Since W.heap.size W w' → Src w' (.slice a2 ys.length c2) ys.length (cellsEd ys)) := hs2
  have hx0 : IntKind.i64.wrap (xs.length : Int) = (xs.length : Int) := by rw [IntKind.wrap_i64]; omega
  have hxy : IntKind.i64.wrap ((xs.length : Int) + (ys.length : Int)) = ((xs.length + ys.length : Nat) : Int) := by rw [IntKind.wrap_i64]; omega
  have hn1 : ¬ ((xs.length : Int) < 0) := by omega
  have hn2 : ¬ (((xs.length + ys.length : Nat) : Int) < 0) := by omega
  have HLX : Hid (xs.length ≤ 1048576) := hlx
  have HLY : Hid (ys.length ≤ 1048576) := hly
  have HG : Hid (∀ w', Calls Try.prog 142 #[.slice none 0 0, .int .i64 ((xs.length : Int) + (ys.length : Int))] w' fun e W' => ∃ u, e = .returned u ∧ OwnEd W' w'.heap.size u [] ∧ Below w'.heap.size w' W') := fun w' => by
    have := growEd_any w' (xs.length + ys.length) (by omega)
    rw [Int.natCast_add] at this
    exact this
  have S0 : Hid (Since W.heap.size W W) := Since.start W
  clear hs1 hs2 hlx hly hb
  go_enter Try.func131, Try.ntmps131
  go_wp2
  refine wp_loop_rounds 3 ?_
  rw [rounds_succ]
  go_wp2
  rw [rounds_succ]
  go_wp2
  rw [rounds_succ]
  go_wp2_with fail
  refine (HG.out W).mono ?_
  rintro e w1 ⟨u1, rfl, ho1, hb1⟩
  obtain ⟨x1, y1, rfl⟩ := ho1.shape
  have S1 : Hid (Since W.heap.size W w1) := S0.out.step hb1
  have O1 : Hid (OwnEd w1 W.heap.size (.slice x1 0 y1) []) := ho1
  have A1 : Hid (∀ ty, ∃ v' w', (Builtin.append_ #[54, 54] ty #[.slice x1 0 y1, .slice a1 xs.length c1]).run Try.prog w1 = .ok v' w' ∧ Grown w1 W.heap.size 61 3 (.slice x1 0 y1) ([] ++ xs).length (cellsEd ([] ++ xs)) v' w') := fun ty => run_appEd w1 W.heap.size _ [] O1.out _ xs (H1.out w1 S1.out) (by have := HLX.out; simp; omega) S1.out.2 ty
  have C1 := HC.out w1 S1.out
  clear ho1 hb1 h0 h1
  obtain ⟨h0, h1⟩ := C1
  simp only [List.length_nil]
  go_wp2
  refine wp_loop_rounds 3 ?_
  rw [rounds_succ]
  go_wp2_with (at_builtin; refine list_app (by rfl) (.tmp 31) (.tmp 32) 54 (by rfl) (.slice x1 0 y1) (.slice a1 xs.length c1) (by rfl) (by rfl) _ A1.out ?_; intro v2 w2 hg2; have S2 : Hid (Since W.heap.size W w2) := ⟨S1.out.1.trans hg2.below, Nat.le_trans S1.out.2 hg2.size⟩; have O2 : Hid (OwnEd w2 W.heap.size v2 xs) := hg2.own; clear hg2; have C2 := HC.out w2 S2.out; clear h0 h1; obtain ⟨h0, h1⟩ := C2)
  have A2 : Hid (∀ ty, ∃ v' w', (Builtin.append_ #[54, 54] ty #[v2, .slice a2 ys.length c2]).run Try.prog w2 = .ok v' w' ∧ Grown w2 W.heap.size 61 3 v2 (xs ++ ys).length (cellsEd (xs ++ ys)) v' w') := fun ty => run_appEd w2 W.heap.size _ xs O2.out _ ys (H2.out w2 S2.out) (by have := HLX.out; have := HLY.out; omega) S2.out.2 ty
  rw [rounds_succ]
  go_wp2_with (at_builtin; refine list_app (by rfl) (.tmp 31) (.tmp 32) 54 (by rfl) v2 (.slice a2 ys.length c2) (by rfl) (by rfl) _ A2.out ?_; intro v3 w3 hg3; have S3 : Hid (Since W.heap.size W w3) := ⟨S2.out.1.trans hg3.below, Nat.le_trans S2.out.2 hg3.size⟩; have O3 : Hid (OwnEd w3 W.heap.size v3 (xs ++ ys)) := hg3.own; clear hg3)
  rw [rounds_succ]
  go_wp2
  go_ret
  exact ⟨_, rfl, O3.out, S3.out.1⟩

theorem srcEd_at {w : World} {g o : Nat} {l : List EdD} (h : ∀ j (hj : j < l.length), EdAt w g (o + j * 3) l[j]) (n c : Nat) (hn : n = l.length) : Src w (.slice (some ⟨g, o, none⟩) n c) n (cellsEd l) := by
  subst hn
  refine .inr ⟨_, _, rfl, fun j u hu => ?_⟩
  rw [Go.WideShapes.add_plain]
  have hj : j < l.length * 3 := by rw [← cellsEd_len]; exact (List.getElem?_eq_some_iff.1 hu).1
  obtain ⟨q, hq | hq | hq⟩ : ∃ q, j = q * 3 ∨ j = q * 3 + 1 ∨ j = q * 3 + 2 := ⟨j / 3, by omega⟩
  · have c0 := cellsEd_get l q (by omega)
    have h0 := h q (by omega)
    subst hq
    rw [c0.1] at hu
    cases hu
    exact h0.1
  · have c0 := cellsEd_get l q (by omega)
    have h0 := h q (by omega)
    subst hq
    rw [c0.2.1] at hu
    cases hu
    have := h0.2.1
    rwa [Nat.add_assoc] at this
  · have c0 := cellsEd_get l q (by omega)
    have h0 := h q (by omega)
    subst hq
    rw [c0.2.2] at hu
    cases hu
    have := h0.2.2
    rwa [Nat.add_assoc] at this
set_option maxRecDepth 100000 in
set_option maxHeartbeats 4000000 in
theorem withoutEd_any (W : World) (B : Nat) (v : Value) (l : List EdD) (k : Nat) (h : OwnEd W B v l) (hk : k < l.length) (hl : l.length ≤ 1048576) :
    Calls Try.prog 104 #[v, .int .i64 (k : Int)] W fun e W' => ∃ u, e = .returned u ∧ OwnEd W' W.heap.size u (l.take k ++ l.drop (k + 1)) ∧ Below W.heap.size W W' := by
  obtain ⟨g, cap, hv, hcap, hg, hat⟩ : ∃ g cap, v = .slice (some ⟨g, 0, none⟩) l.length cap ∧ l.length ≤ cap ∧ g < W.heap.size ∧ ∀ j (hj : j < l.length), EdAt W g (0 + j * 3) l[j] := by
    have h' := h
    rcases h.2 with ⟨hv, hn⟩ | ⟨g, cap, cur, hv, hB, hg, hc, -⟩
    · omega
    · subst hv
      refine ⟨g, cap, rfl, hc, (Array.getElem?_eq_some_iff.1 hg).1, fun j hj => ?_⟩
      have c0 := cellsEd_get l j hj
      rw [Nat.zero_add]
      exact ⟨(World.ownsRow.cellAt h' _ (by omega)).trans c0.1, (World.ownsRow.cellAt h' _ (by omega)).trans c0.2.1, (World.ownsRow.cellAt h' _ (by omega)).trans c0.2.2⟩
  subst hv
  have HAT : Hid (∀ w', Below W.heap.size W w' → ∀ j (hj : j < l.length), EdAt w' g (0 + j * 3) l[j]) := fun w' hb j hj => (hat j hj).below hg hb
  have HG : Hid (g < W.heap.size) := hg
  have hw1 : IntKind.i64.wrap ((k : Int) + 1) = (k : Int) + 1 := by rw [IntKind.wrap_i64]; omega
  have hkc : k ≤ cap := by omega
  have hk1 : k + 1 ≤ l.length := by omega
  have hk2 : (k : Int) + 1 ≤ (l.length : Int) := by omega
  have hk3 : 0 ≤ (k : Int) + 1 := by omega
  have HL : Hid (l.length ≤ 1048576) := hl
  clear h hat hg hl
  obtain ⟨pp, hpp⟩ : ∃ pp : Option Addr, (if cap = k + 1 then some ⟨g, 0, none⟩ else some ⟨g, (k + 1) * 3, none⟩) = pp := ⟨_, rfl⟩
  have HS2 : Hid (∀ w', Below W.heap.size W w' → Src w' (.slice pp (l.drop (k + 1)).length (cap - (k + 1))) (l.drop (k + 1)).length (cellsEd (l.drop (k + 1)))) := fun w' hb => by
    rw [← hpp]
    split
    · rw [List.drop_eq_nil_of_le (by omega)]
      exact .inr ⟨_, _, rfl, fun j u hu => by simp [cellsEd] at hu⟩
    · exact srcEd_at (fun j hj => by
        rw [List.length_drop] at hj
        rw [List.getElem_drop]
        have := HAT.out w' hb (k + 1 + j) (by omega)
        rw [show 0 + (k + 1 + j) * 3 = (k + 1) * 3 + j * 3 by omega] at this
        exact this) _ _ rfl
  go_enter Try.func104, Try.ntmps104
  go_wp2
  refine wp_region_held_drew (S := fun _ => True) (by kernel_rfl) trivial (fun hHeld => ?_)
  have HD : Hid (Below W.heap.size W W.drew ∧ W.heap.size ≤ W.drew.heap.size) := ⟨(Below.refl _ W).drew, Nat.le_refl _⟩
  generalize hwd : W.drew = wd at *
  clear hwd
  refine handRead 0 (some 5) (.slice (some ⟨g, 0, none⟩) l.length cap) rfl rfl (by kernel_rfl) (by kernel_rfl) (by kernel_rfl) (fun _ _ _ h => h) (by kernel_rfl) (by assumption) ?_ ?_
  · intro w hSw
    go_simp
  simp only [Act.put, List.setIfInBounds_toArray, List.set_cons_zero, List.set_cons_succ]
  refine handRead 1 (some 6) (.int .i64 k) rfl rfl (by kernel_rfl) (by kernel_rfl) (by kernel_rfl) (fun _ _ _ h => h) (by kernel_rfl) (by assumption) ?_ ?_
  · intro w hSw
    go_simp
  simp only [Act.put, List.setIfInBounds_toArray, List.set_cons_zero, List.set_cons_succ]
  refine handRead 2 (some 7) (.slice (some ⟨g, 0, none⟩) k cap) rfl rfl (by kernel_rfl) (by kernel_rfl) (by kernel_rfl) (fun _ _ _ h => h) (by kernel_rfl) (by assumption) ?_ ?_
  · intro w hSw
    go_simp
  simp only [Act.put, List.setIfInBounds_toArray, List.set_cons_zero, List.set_cons_succ]
  refine handRead 3 (some 8) (.slice (some ⟨g, 0, none⟩) l.length cap) rfl rfl (by kernel_rfl) (by kernel_rfl) (by kernel_rfl) (fun _ _ _ h => h) (by kernel_rfl) (by assumption) ?_ ?_
  · intro w hSw
    go_simp
  simp only [Act.put, List.setIfInBounds_toArray, List.set_cons_zero, List.set_cons_succ]
  refine handRead 4 (some 9) (.int .i64 k) rfl rfl (by kernel_rfl) (by kernel_rfl) (by kernel_rfl) (fun _ _ _ h => h) (by kernel_rfl) (by assumption) ?_ ?_
  · intro w hSw
    go_simp
  simp only [Act.put, List.setIfInBounds_toArray, List.set_cons_zero, List.set_cons_succ]
  refine handRead 5 (some 10) (.int .i64 ((k : Int) + 1)) rfl rfl (by kernel_rfl) (by kernel_rfl) (by kernel_rfl) (fun _ _ _ h => h) (by kernel_rfl) (by assumption) ?_ ?_
  · intro w hSw
    go_simp
  simp only [Act.put, List.setIfInBounds_toArray, List.set_cons_zero, List.set_cons_succ]
  refine handRead 6 (some 11) (.slice pp (l.length - (k + 1)) (cap - (k + 1))) rfl rfl (by kernel_rfl) (by kernel_rfl) (by kernel_rfl) (fun _ _ _ h => h) (by kernel_rfl) (by assumption) ?_ ?_
  · intro w hSw
    go_simp
  simp only [Act.put, List.setIfInBounds_toArray, List.set_cons_zero, List.set_cons_succ]
  refine wpAnyH_ready (rs := [7]) (by kernel_rfl) (by simp) ?_
  refine AllReadyH.cons rfl (fun K hK => ?_) AllReadyH.nil
  go_simp
  refine hK.out _ _ trivial (fun hHeld => ?_)
  clear hK K
  try simp only [Act.put, List.setIfInBounds_toArray, List.set_cons_zero, List.set_cons_succ]
  have HB2 : Hid (Below W.heap.size W (wd.alloc (.cells #[.slice (some ⟨g, 0, none⟩) k cap, .slice pp (l.length - (k + 1)) (cap - (k + 1))] 54)) ∧ W.heap.size ≤ (wd.alloc (.cells #[.slice (some ⟨g, 0, none⟩) k cap, .slice pp (l.length - (k + 1)) (cap - (k + 1))] 54)).heap.size) := ⟨HD.out.1.alloc HD.out.2 _, Nat.le_trans HD.out.2 (by simp)⟩
  have HCC := concatEd_any (wd.alloc (.cells #[.slice (some ⟨g, 0, none⟩) k cap, .slice pp (l.length - (k + 1)) (cap - (k + 1))] 54)) wd.heap.size (some ⟨g, 0, none⟩) pp cap (cap - (k + 1)) (l.take k) (l.drop (k + 1)) (by simp)
    (by rw [World.cell?_alloc_at _ _ _ _ rfl, List.length_take, Nat.min_eq_left (by omega)]; rfl) (by rw [World.cell?_alloc_at _ _ _ _ rfl, List.length_drop]; rfl)
    (fun w' hs => srcEd_at (fun j hj => by
      rw [List.length_take] at hj
      rw [List.getElem_take]
      exact HAT.out w' (HB2.out.1.trans (hs.1.mono HB2.out.2)) j (by omega)) _ _ rfl)
    (fun w' hs => HS2.out w' (HB2.out.1.trans (hs.1.mono HB2.out.2))) (by have := HL.out; rw [List.length_take]; omega) (by have := HL.out; rw [List.length_drop]; omega)
  generalize wd.alloc (.cells #[.slice (some ⟨g, 0, none⟩) k cap, .slice pp (l.length - (k + 1)) (cap - (k + 1))] 54) = w2 at *
  refine handCall 8 (some 13) 131 #[.slice (some ⟨wd.heap.size, 0, none⟩) 2 2] (by kernel_rfl) rfl rfl (by kernel_rfl) (by simp [go_sem]) (HCC.mono ?_)
  rintro e w3 ⟨u, rfl, ho, hb⟩
  have HF : Hid (OwnEd w3 W.heap.size u (l.take k ++ l.drop (k + 1)) ∧ Below W.heap.size W w3) := ⟨ho.mono HB2.out.2, HB2.out.1.trans (hb.mono HB2.out.2)⟩
  clear ho hb
  refine ⟨_, rfl, trivial, fun hHeld => ?_⟩
  try simp only [Act.put, List.setIfInBounds_toArray, List.set_cons_zero, List.set_cons_succ]
  refine handRead 9 (some 4) u rfl rfl (by kernel_rfl) (by kernel_rfl) (by kernel_rfl) (fun _ _ _ h => h) (by kernel_rfl) (by assumption) ?_ ?_
  · intro w hSw
    go_simp
  try simp only [Act.put, List.setIfInBounds_toArray, List.set_cons_zero, List.set_cons_succ]
  refine wpAnyH_done (by kernel_rfl) ?_ _
  go_wp2
  go_ret
  exact ⟨_, rfl, HF.out⟩
end Go.Proofs.Ythlbmkefjjckaac
