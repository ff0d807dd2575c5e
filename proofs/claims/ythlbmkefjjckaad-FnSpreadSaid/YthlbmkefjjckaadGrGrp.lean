/-
  Groups put together: 'joinGroups' and 'groupsOf' of the program.
-/
import Derived.Test.YthlbmkefjjckaadBunB
namespace Go.Proofs.Ythlbmkefjjckaad
open Go.RowKit
set_option linter.unusedVariables false

/-- The first k relabelled. -/
def relTo (zs : List Int) (p q : Int) (k : Nat) : List Int := relab (zs.take k) p q ++ zs.drop k
theorem relTo_len (zs : List Int) (p q : Int) (k : Nat) : (relTo zs p q k).length = zs.length := by
  unfold relTo
  rw [List.length_append, relab_len, List.length_take, List.length_drop]
  omega
theorem relTo_zero (zs : List Int) (p q : Int) : relTo zs p q 0 = zs := rfl
theorem relTo_all (zs : List Int) (p q : Int) : relTo zs p q zs.length = relab zs p q := by simp [relTo]
theorem relTo_get (zs : List Int) (p q : Int) (k : Nat) (h : k < zs.length) : (relTo zs p q k)[k]? = some zs[k] := by
  unfold relTo
  have e : (relab (zs.take k) p q).length = k := by rw [relab_len, List.length_take]; omega
  rw [List.getElem?_append_right (by omega), e, Nat.sub_self, List.getElem?_drop]
  simp [h]
theorem relTo_next (zs : List Int) (p q : Int) (k : Nat) (h : k < zs.length) : relTo zs p q (k + 1) = (relTo zs p q k).set k (if zs[k] = q then p else zs[k]) := by
  unfold relTo
  have e : (relab (zs.take k) p q).length = k := by rw [relab_len, List.length_take]; omega
  rw [List.set_append_right _ _ (by omega), e, Nat.sub_self, List.drop_eq_getElem_cons h, List.set_cons_zero, List.take_succ_eq_append_getElem h]
  simp only [relab, List.map_append, List.map_cons, List.map_nil, List.append_assoc, List.cons_append, List.nil_append]
theorem relTo_same (zs : List Int) (p q : Int) (k : Nat) (h : k < zs.length) (hq : ¬ zs[k] = q) : relTo zs p q (k + 1) = relTo zs p q k := by
  unfold relTo
  rw [List.drop_eq_getElem_cons h, List.take_succ_eq_append_getElem h]
  simp only [relab, List.map_append, List.map_cons, List.map_nil, List.append_assoc, List.cons_append, List.nil_append, if_neg hq]

/-- Cells of numbers that are one's own. -/
theorem own_cell {W : World} {B g cap : Nat} {zs : List Int} (h : Own W B (.slice (some ⟨g, 0, none⟩) zs.length cap) zs) (j : Nat) (hj : j < zs.length) : W.cell? ⟨g, j, none⟩ = some (.int .i64 zs[j]) := by
  rw [World.ownsRow.cellAt h j (by omega), List.getElem?_map, List.getElem?_eq_getElem hj]
  rfl
theorem own_at {W : World} {B : Nat} {v : Value} {zs : List Int} (h : Own W B v zs) (h0 : 0 < zs.length) : ∃ g cap, v = .slice (some ⟨g, 0, none⟩) zs.length cap ∧ B ≤ g := by
  rcases h.2 with ⟨hv, hn⟩ | ⟨g, cap, cur, hv, hB, hg, hc, -⟩
  · omega
  · exact ⟨g, cap, hv, hB⟩

set_option maxRecDepth 100000 in
set_option maxHeartbeats 4000000 in
theorem relabel_walk (W : World) (B g cap n : Nat) (zs : List Int) (a b : Nat) (x y : Int) (h : Own W B (.slice (some ⟨g, 0, none⟩) zs.length cap) zs) (hB : B ≤ W.heap.size) (hgB : B ≤ g) (hn : zs.length = n) (ha : a < n) (hb : b < n) (hx : zs[a]? = some x) (hy : zs[b]? = some y) (hn12 : n ≤ 12) :
    Calls Try.prog 71 #[.slice (some ⟨g, 0, none⟩) n cap, .int .i64 (a : Int), .int .i64 (b : Int)] W fun e W' => (∃ v, e = .returned v) ∧ Own W' B (.slice (some ⟨g, 0, none⟩) n cap) (relab zs (min x y) (max x y)) ∧ Since B W W' := by
  have HCC : Hid (∀ w' : World, w'.heap = W.heap → w'.cell? ⟨g, a, none⟩ = some (.int .i64 x) ∧ w'.cell? ⟨g, b, none⟩ = some (.int .i64 y)) := fun w' e => by
    have h1 := own_cell h a (by omega)
    have h2 := own_cell h b (by omega)
    rw [List.getElem?_eq_getElem (by omega)] at hx hy
    rw [Option.some.inj hx] at h1
    rw [Option.some.inj hy] at h2
    unfold World.cell? at h1 h2 ⊢
    rw [e]
    exact ⟨h1, h2⟩
  have HZ0' : Hid (∀ p q, Own W.drew B (.slice (some ⟨g, 0, none⟩) n cap) (relTo zs p q 0) ∧ Since B W W.drew) := fun p q => ⟨by rw [relTo_zero, ← hn]; exact h.drew, (Below.refl _ _).drew, hB⟩
  have HN : Hid (zs.length = n) := hn
  have HG : Hid (B ≤ g) := hgB
  have ha' : (a : Int) < (n : Int) := by omega
  have hb' : (b : Int) < (n : Int) := by omega
  clear h hB hgB hx hy
  rcases Int.lt_trichotomy x y with hlt | hlt | hlt
  · have h1 : x ≤ y := by omega
    have h2 : ¬ y ≤ x := by omega
    rw [Int.min_eq_left h1, Int.max_eq_right h1]
    clear hlt
    have HZ0 : Hid (Own W.drew B (.slice (some ⟨g, 0, none⟩) n cap) (relTo zs x y 0) ∧ Since B W W.drew) := HZ0'.out x y
    go_enter Try.func71, Try.ntmps71
    go_wp2
    refine wp_region_held_drew (S := (fun w' => w'.cell? ⟨g, a, none⟩ = some (.int .i64 x) ∧ w'.cell? ⟨g, b, none⟩ = some (.int .i64 y))) (by kernel_rfl) ?_ (fun hHeld => ?_)
    · exact HCC.out _ rfl
    refine handRead 0 (some 10) (.slice (some ⟨g, 0, none⟩) n cap) rfl rfl (by kernel_rfl) (by kernel_rfl) (by kernel_rfl) (fun _ _ _ h => h) (by kernel_rfl) (by assumption) ?_ ?_
    · intro w hSw
      (try dsimp only at hSw)
      go_simp
    simp only [Act.put, List.setIfInBounds_toArray, List.set_cons_zero, List.set_cons_succ]
    refine handRead 1 (some 11) (.int .i64 a) rfl rfl (by kernel_rfl) (by kernel_rfl) (by kernel_rfl) (fun _ _ _ h => h) (by kernel_rfl) (by assumption) ?_ ?_
    · intro w hSw
      (try dsimp only at hSw)
      go_simp
    simp only [Act.put, List.setIfInBounds_toArray, List.set_cons_zero, List.set_cons_succ]
    refine handRead 2 (some 12) (.pointer (some ⟨g, a, none⟩)) rfl rfl (by kernel_rfl) (by kernel_rfl) (by kernel_rfl) (fun _ _ _ h => h) (by kernel_rfl) (by assumption) ?_ ?_
    · intro w hSw
      (try dsimp only at hSw)
      go_simp
    simp only [Act.put, List.setIfInBounds_toArray, List.set_cons_zero, List.set_cons_succ]
    refine handRead 3 (some 13) (.int .i64 x) rfl rfl (by kernel_rfl) (by kernel_rfl) (by kernel_rfl) (fun _ _ _ h => h) (by kernel_rfl) (by assumption) ?_ ?_
    · intro w hSw
      (try dsimp only at hSw)
      go_simp
    simp only [Act.put, List.setIfInBounds_toArray, List.set_cons_zero, List.set_cons_succ]
    refine handRead 4 (some 14) (.slice (some ⟨g, 0, none⟩) n cap) rfl rfl (by kernel_rfl) (by kernel_rfl) (by kernel_rfl) (fun _ _ _ h => h) (by kernel_rfl) (by assumption) ?_ ?_
    · intro w hSw
      (try dsimp only at hSw)
      go_simp
    simp only [Act.put, List.setIfInBounds_toArray, List.set_cons_zero, List.set_cons_succ]
    refine handRead 5 (some 15) (.int .i64 b) rfl rfl (by kernel_rfl) (by kernel_rfl) (by kernel_rfl) (fun _ _ _ h => h) (by kernel_rfl) (by assumption) ?_ ?_
    · intro w hSw
      (try dsimp only at hSw)
      go_simp
    simp only [Act.put, List.setIfInBounds_toArray, List.set_cons_zero, List.set_cons_succ]
    refine handRead 6 (some 16) (.pointer (some ⟨g, b, none⟩)) rfl rfl (by kernel_rfl) (by kernel_rfl) (by kernel_rfl) (fun _ _ _ h => h) (by kernel_rfl) (by assumption) ?_ ?_
    · intro w hSw
      (try dsimp only at hSw)
      go_simp
    simp only [Act.put, List.setIfInBounds_toArray, List.set_cons_zero, List.set_cons_succ]
    refine handRead 7 (some 17) (.int .i64 y) rfl rfl (by kernel_rfl) (by kernel_rfl) (by kernel_rfl) (fun _ _ _ h => h) (by kernel_rfl) (by assumption) ?_ ?_
    · intro w hSw
      (try dsimp only at hSw)
      go_simp
    simp only [Act.put, List.setIfInBounds_toArray, List.set_cons_zero, List.set_cons_succ]
    refine handRead 8 (some 18) (.int .i64 x) rfl rfl (by kernel_rfl) (by kernel_rfl) (by kernel_rfl) (fun _ _ _ h => h) (by kernel_rfl) (by assumption) ?_ ?_
    · intro w hSw
      (try dsimp only at hSw)
      go_simp
      all_goals (intros; omega)
    simp only [Act.put, List.setIfInBounds_toArray, List.set_cons_zero, List.set_cons_succ]
    refine handRead 9 (some 19) (.slice (some ⟨g, 0, none⟩) n cap) rfl rfl (by kernel_rfl) (by kernel_rfl) (by kernel_rfl) (fun _ _ _ h => h) (by kernel_rfl) (by assumption) ?_ ?_
    · intro w hSw
      (try dsimp only at hSw)
      go_simp
    simp only [Act.put, List.setIfInBounds_toArray, List.set_cons_zero, List.set_cons_succ]
    refine handRead 10 (some 20) (.int .i64 a) rfl rfl (by kernel_rfl) (by kernel_rfl) (by kernel_rfl) (fun _ _ _ h => h) (by kernel_rfl) (by assumption) ?_ ?_
    · intro w hSw
      (try dsimp only at hSw)
      go_simp
    simp only [Act.put, List.setIfInBounds_toArray, List.set_cons_zero, List.set_cons_succ]
    refine handRead 11 (some 21) (.pointer (some ⟨g, a, none⟩)) rfl rfl (by kernel_rfl) (by kernel_rfl) (by kernel_rfl) (fun _ _ _ h => h) (by kernel_rfl) (by assumption) ?_ ?_
    · intro w hSw
      (try dsimp only at hSw)
      go_simp
    simp only [Act.put, List.setIfInBounds_toArray, List.set_cons_zero, List.set_cons_succ]
    refine handRead 12 (some 22) (.int .i64 x) rfl rfl (by kernel_rfl) (by kernel_rfl) (by kernel_rfl) (fun _ _ _ h => h) (by kernel_rfl) (by assumption) ?_ ?_
    · intro w hSw
      (try dsimp only at hSw)
      go_simp
    simp only [Act.put, List.setIfInBounds_toArray, List.set_cons_zero, List.set_cons_succ]
    refine handRead 13 (some 23) (.slice (some ⟨g, 0, none⟩) n cap) rfl rfl (by kernel_rfl) (by kernel_rfl) (by kernel_rfl) (fun _ _ _ h => h) (by kernel_rfl) (by assumption) ?_ ?_
    · intro w hSw
      (try dsimp only at hSw)
      go_simp
    simp only [Act.put, List.setIfInBounds_toArray, List.set_cons_zero, List.set_cons_succ]
    refine handRead 14 (some 24) (.int .i64 b) rfl rfl (by kernel_rfl) (by kernel_rfl) (by kernel_rfl) (fun _ _ _ h => h) (by kernel_rfl) (by assumption) ?_ ?_
    · intro w hSw
      (try dsimp only at hSw)
      go_simp
    simp only [Act.put, List.setIfInBounds_toArray, List.set_cons_zero, List.set_cons_succ]
    refine handRead 15 (some 25) (.pointer (some ⟨g, b, none⟩)) rfl rfl (by kernel_rfl) (by kernel_rfl) (by kernel_rfl) (fun _ _ _ h => h) (by kernel_rfl) (by assumption) ?_ ?_
    · intro w hSw
      (try dsimp only at hSw)
      go_simp
    simp only [Act.put, List.setIfInBounds_toArray, List.set_cons_zero, List.set_cons_succ]
    refine handRead 16 (some 26) (.int .i64 y) rfl rfl (by kernel_rfl) (by kernel_rfl) (by kernel_rfl) (fun _ _ _ h => h) (by kernel_rfl) (by assumption) ?_ ?_
    · intro w hSw
      (try dsimp only at hSw)
      go_simp
    simp only [Act.put, List.setIfInBounds_toArray, List.set_cons_zero, List.set_cons_succ]
    refine handRead 17 (some 27) (.int .i64 y) rfl rfl (by kernel_rfl) (by kernel_rfl) (by kernel_rfl) (fun _ _ _ h => h) (by kernel_rfl) (by assumption) ?_ ?_
    · intro w hSw
      (try dsimp only at hSw)
      go_simp
      all_goals (intros; omega)
    simp only [Act.put, List.setIfInBounds_toArray, List.set_cons_zero, List.set_cons_succ]
    refine handRead 18 (some 6) (.int .i64 x) rfl rfl (by kernel_rfl) (by kernel_rfl) (by kernel_rfl) (fun _ _ _ h => h) (by kernel_rfl) (by assumption) ?_ ?_
    · intro w hSw
      (try dsimp only at hSw)
      go_simp
    simp only [Act.put, List.setIfInBounds_toArray, List.set_cons_zero, List.set_cons_succ]
    refine handRead 19 (some 7) (.int .i64 y) rfl rfl (by kernel_rfl) (by kernel_rfl) (by kernel_rfl) (fun _ _ _ h => h) (by kernel_rfl) (by assumption) ?_ ?_
    · intro w hSw
      (try dsimp only at hSw)
      go_simp
    simp only [Act.put, List.setIfInBounds_toArray, List.set_cons_zero, List.set_cons_succ]
    refine wpAnyH_done (by kernel_rfl) ?_ _
    go_wp2
    go_loopw [30] (fun i wr => ∃ k : Nat, k ≤ zs.length ∧ i = .int .i64 k ∧ Hid (Own wr B (.slice (some ⟨g, 0, none⟩) n cap) (relTo zs x y k) ∧ Since B W wr)) (fun i _ => n - (intOf i).toNat)
    case atStart => exact ⟨0, Nat.zero_le _, rfl, HZ0.out⟩
    case round =>
      clear HZ0
      obtain ⟨k, hk, rfl, HK⟩ := hrel
      by_cases hlt : k < zs.length
      · have hlt' : (k : Int) < (n : Int) := by omega
        have HO := HK.out.1
        have hkn : k < n := by omega
        have c0 : wr.cell? ⟨g, k, none⟩ = some (.int .i64 zs[k]) := by
          have hk2 : k < (relTo zs x y k).length := by rw [relTo_len]; exact hlt
          have e : n = (relTo zs x y k).length := by rw [relTo_len]; exact HN.out.symm
          rw [e] at HO
          rw [own_cell HO k hk2]
          have := relTo_get zs x y k hlt
          rw [List.getElem?_eq_getElem hk2] at this
          rw [Option.some.inj this]
        have hf0 : wr.frozen? ⟨g, k, none⟩ = false := by
          have e : n = (relTo zs x y k).length := by rw [relTo_len]; exact HN.out.symm
          rw [e] at HO
          exact World.ownsRow.frozenAt HO k
        have HSM : Hid (¬ zs[k] = y → relTo zs x y (k + 1) = relTo zs x y k) := relTo_same zs x y k hlt
        have HNX : Hid (zs[k] = y → relTo zs x y (k + 1) = (relTo zs x y k).set k x) := fun e => by rw [relTo_next zs x y k hlt, if_pos e]
        have HOW : Hid (∀ u : Int, Own (wr.setCell ⟨g, k, none⟩ (.int .i64 u)) B (.slice (some ⟨g, 0, none⟩) n cap) ((relTo zs x y k).set k u)) := fun u => by
          have e : n = (relTo zs x y k).length := by rw [relTo_len]; exact HN.out.symm
          rw [e] at HO ⊢
          exact HO.set k u
        clear HO
        generalize zs[k] = z at *
        by_cases hz : z = y
        · have d1 : (z == y) = true := beq_iff_eq.2 hz
          have HF : Hid (Own (wr.setCell ⟨g, k, none⟩ (.int .i64 x)) B (.slice (some ⟨g, 0, none⟩) n cap) (relTo zs x y (k + 1)) ∧ Since B W (wr.setCell ⟨g, k, none⟩ (.int .i64 x))) := ⟨by rw [HNX.out hz]; exact HOW.out x, HK.out.2.1.setCell HG.out _, by have := HK.out.2.2; simpa using this⟩
          clear HK HSM HNX HOW hz
          go_wp2
          go_roundw
          case rel => exact ⟨k + 1, by omega, by go_num, HF.out⟩
          case measure => simp [intOf]; omega
        · have d1 : (z == y) = false := beq_eq_false_iff_ne.2 hz
          have HF : Hid (Own wr B (.slice (some ⟨g, 0, none⟩) n cap) (relTo zs x y (k + 1)) ∧ Since B W wr) := ⟨by rw [HSM.out hz]; exact HK.out.1, HK.out.2⟩
          clear HK HSM HNX HOW hz hf0
          go_wp2
          go_roundw
          case rel => exact ⟨k + 1, by omega, by go_num, HF.out⟩
          case measure => simp [intOf]; omega
      · have hlt' : ¬ (k : Int) < (n : Int) := by omega
        have HF : Hid (Own wr B (.slice (some ⟨g, 0, none⟩) n cap) (relab zs x y) ∧ Since B W wr) := ⟨by
          have := HK.out.1
          rw [show k = zs.length by omega, relTo_all] at this
          exact this, HK.out.2⟩
        clear HK
        go_wp2
        exact bodyPost_end (v := .tuple #[]) (by simp [results, Try.results71]) rfl ⟨⟨_, rfl⟩, HF.out⟩
  · subst hlt
    have h1 : x ≤ x := Int.le_refl _
    rw [Int.min_eq_left h1, Int.max_eq_right h1]
    have HZ0 : Hid (Own W.drew B (.slice (some ⟨g, 0, none⟩) n cap) (relTo zs x x 0) ∧ Since B W W.drew) := HZ0'.out x x
    go_enter Try.func71, Try.ntmps71
    go_wp2
    refine wp_region_held_drew (S := (fun w' => w'.cell? ⟨g, a, none⟩ = some (.int .i64 x) ∧ w'.cell? ⟨g, b, none⟩ = some (.int .i64 x))) (by kernel_rfl) ?_ (fun hHeld => ?_)
    · exact HCC.out _ rfl
    refine handRead 0 (some 10) (.slice (some ⟨g, 0, none⟩) n cap) rfl rfl (by kernel_rfl) (by kernel_rfl) (by kernel_rfl) (fun _ _ _ h => h) (by kernel_rfl) (by assumption) ?_ ?_
    · intro w hSw
      (try dsimp only at hSw)
      go_simp
    simp only [Act.put, List.setIfInBounds_toArray, List.set_cons_zero, List.set_cons_succ]
    refine handRead 1 (some 11) (.int .i64 a) rfl rfl (by kernel_rfl) (by kernel_rfl) (by kernel_rfl) (fun _ _ _ h => h) (by kernel_rfl) (by assumption) ?_ ?_
    · intro w hSw
      (try dsimp only at hSw)
      go_simp
    simp only [Act.put, List.setIfInBounds_toArray, List.set_cons_zero, List.set_cons_succ]
    refine handRead 2 (some 12) (.pointer (some ⟨g, a, none⟩)) rfl rfl (by kernel_rfl) (by kernel_rfl) (by kernel_rfl) (fun _ _ _ h => h) (by kernel_rfl) (by assumption) ?_ ?_
    · intro w hSw
      (try dsimp only at hSw)
      go_simp
    simp only [Act.put, List.setIfInBounds_toArray, List.set_cons_zero, List.set_cons_succ]
    refine handRead 3 (some 13) (.int .i64 x) rfl rfl (by kernel_rfl) (by kernel_rfl) (by kernel_rfl) (fun _ _ _ h => h) (by kernel_rfl) (by assumption) ?_ ?_
    · intro w hSw
      (try dsimp only at hSw)
      go_simp
    simp only [Act.put, List.setIfInBounds_toArray, List.set_cons_zero, List.set_cons_succ]
    refine handRead 4 (some 14) (.slice (some ⟨g, 0, none⟩) n cap) rfl rfl (by kernel_rfl) (by kernel_rfl) (by kernel_rfl) (fun _ _ _ h => h) (by kernel_rfl) (by assumption) ?_ ?_
    · intro w hSw
      (try dsimp only at hSw)
      go_simp
    simp only [Act.put, List.setIfInBounds_toArray, List.set_cons_zero, List.set_cons_succ]
    refine handRead 5 (some 15) (.int .i64 b) rfl rfl (by kernel_rfl) (by kernel_rfl) (by kernel_rfl) (fun _ _ _ h => h) (by kernel_rfl) (by assumption) ?_ ?_
    · intro w hSw
      (try dsimp only at hSw)
      go_simp
    simp only [Act.put, List.setIfInBounds_toArray, List.set_cons_zero, List.set_cons_succ]
    refine handRead 6 (some 16) (.pointer (some ⟨g, b, none⟩)) rfl rfl (by kernel_rfl) (by kernel_rfl) (by kernel_rfl) (fun _ _ _ h => h) (by kernel_rfl) (by assumption) ?_ ?_
    · intro w hSw
      (try dsimp only at hSw)
      go_simp
    simp only [Act.put, List.setIfInBounds_toArray, List.set_cons_zero, List.set_cons_succ]
    refine handRead 7 (some 17) (.int .i64 x) rfl rfl (by kernel_rfl) (by kernel_rfl) (by kernel_rfl) (fun _ _ _ h => h) (by kernel_rfl) (by assumption) ?_ ?_
    · intro w hSw
      (try dsimp only at hSw)
      go_simp
    simp only [Act.put, List.setIfInBounds_toArray, List.set_cons_zero, List.set_cons_succ]
    refine handRead 8 (some 18) (.int .i64 x) rfl rfl (by kernel_rfl) (by kernel_rfl) (by kernel_rfl) (fun _ _ _ h => h) (by kernel_rfl) (by assumption) ?_ ?_
    · intro w hSw
      (try dsimp only at hSw)
      go_simp
      all_goals (intros; omega)
    simp only [Act.put, List.setIfInBounds_toArray, List.set_cons_zero, List.set_cons_succ]
    refine handRead 9 (some 19) (.slice (some ⟨g, 0, none⟩) n cap) rfl rfl (by kernel_rfl) (by kernel_rfl) (by kernel_rfl) (fun _ _ _ h => h) (by kernel_rfl) (by assumption) ?_ ?_
    · intro w hSw
      (try dsimp only at hSw)
      go_simp
    simp only [Act.put, List.setIfInBounds_toArray, List.set_cons_zero, List.set_cons_succ]
    refine handRead 10 (some 20) (.int .i64 a) rfl rfl (by kernel_rfl) (by kernel_rfl) (by kernel_rfl) (fun _ _ _ h => h) (by kernel_rfl) (by assumption) ?_ ?_
    · intro w hSw
      (try dsimp only at hSw)
      go_simp
    simp only [Act.put, List.setIfInBounds_toArray, List.set_cons_zero, List.set_cons_succ]
    refine handRead 11 (some 21) (.pointer (some ⟨g, a, none⟩)) rfl rfl (by kernel_rfl) (by kernel_rfl) (by kernel_rfl) (fun _ _ _ h => h) (by kernel_rfl) (by assumption) ?_ ?_
    · intro w hSw
      (try dsimp only at hSw)
      go_simp
    simp only [Act.put, List.setIfInBounds_toArray, List.set_cons_zero, List.set_cons_succ]
    refine handRead 12 (some 22) (.int .i64 x) rfl rfl (by kernel_rfl) (by kernel_rfl) (by kernel_rfl) (fun _ _ _ h => h) (by kernel_rfl) (by assumption) ?_ ?_
    · intro w hSw
      (try dsimp only at hSw)
      go_simp
    simp only [Act.put, List.setIfInBounds_toArray, List.set_cons_zero, List.set_cons_succ]
    refine handRead 13 (some 23) (.slice (some ⟨g, 0, none⟩) n cap) rfl rfl (by kernel_rfl) (by kernel_rfl) (by kernel_rfl) (fun _ _ _ h => h) (by kernel_rfl) (by assumption) ?_ ?_
    · intro w hSw
      (try dsimp only at hSw)
      go_simp
    simp only [Act.put, List.setIfInBounds_toArray, List.set_cons_zero, List.set_cons_succ]
    refine handRead 14 (some 24) (.int .i64 b) rfl rfl (by kernel_rfl) (by kernel_rfl) (by kernel_rfl) (fun _ _ _ h => h) (by kernel_rfl) (by assumption) ?_ ?_
    · intro w hSw
      (try dsimp only at hSw)
      go_simp
    simp only [Act.put, List.setIfInBounds_toArray, List.set_cons_zero, List.set_cons_succ]
    refine handRead 15 (some 25) (.pointer (some ⟨g, b, none⟩)) rfl rfl (by kernel_rfl) (by kernel_rfl) (by kernel_rfl) (fun _ _ _ h => h) (by kernel_rfl) (by assumption) ?_ ?_
    · intro w hSw
      (try dsimp only at hSw)
      go_simp
    simp only [Act.put, List.setIfInBounds_toArray, List.set_cons_zero, List.set_cons_succ]
    refine handRead 16 (some 26) (.int .i64 x) rfl rfl (by kernel_rfl) (by kernel_rfl) (by kernel_rfl) (fun _ _ _ h => h) (by kernel_rfl) (by assumption) ?_ ?_
    · intro w hSw
      (try dsimp only at hSw)
      go_simp
    simp only [Act.put, List.setIfInBounds_toArray, List.set_cons_zero, List.set_cons_succ]
    refine handRead 17 (some 27) (.int .i64 x) rfl rfl (by kernel_rfl) (by kernel_rfl) (by kernel_rfl) (fun _ _ _ h => h) (by kernel_rfl) (by assumption) ?_ ?_
    · intro w hSw
      (try dsimp only at hSw)
      go_simp
      all_goals (intros; omega)
    simp only [Act.put, List.setIfInBounds_toArray, List.set_cons_zero, List.set_cons_succ]
    refine handRead 18 (some 6) (.int .i64 x) rfl rfl (by kernel_rfl) (by kernel_rfl) (by kernel_rfl) (fun _ _ _ h => h) (by kernel_rfl) (by assumption) ?_ ?_
    · intro w hSw
      (try dsimp only at hSw)
      go_simp
    simp only [Act.put, List.setIfInBounds_toArray, List.set_cons_zero, List.set_cons_succ]
    refine handRead 19 (some 7) (.int .i64 x) rfl rfl (by kernel_rfl) (by kernel_rfl) (by kernel_rfl) (fun _ _ _ h => h) (by kernel_rfl) (by assumption) ?_ ?_
    · intro w hSw
      (try dsimp only at hSw)
      go_simp
    simp only [Act.put, List.setIfInBounds_toArray, List.set_cons_zero, List.set_cons_succ]
    refine wpAnyH_done (by kernel_rfl) ?_ _
    go_wp2
    go_loopw [30] (fun i wr => ∃ k : Nat, k ≤ zs.length ∧ i = .int .i64 k ∧ Hid (Own wr B (.slice (some ⟨g, 0, none⟩) n cap) (relTo zs x x k) ∧ Since B W wr)) (fun i _ => n - (intOf i).toNat)
    case atStart => exact ⟨0, Nat.zero_le _, rfl, HZ0.out⟩
    case round =>
      clear HZ0
      obtain ⟨k, hk, rfl, HK⟩ := hrel
      by_cases hlt : k < zs.length
      · have hlt' : (k : Int) < (n : Int) := by omega
        have HO := HK.out.1
        have hkn : k < n := by omega
        have c0 : wr.cell? ⟨g, k, none⟩ = some (.int .i64 zs[k]) := by
          have hk2 : k < (relTo zs x x k).length := by rw [relTo_len]; exact hlt
          have e : n = (relTo zs x x k).length := by rw [relTo_len]; exact HN.out.symm
          rw [e] at HO
          rw [own_cell HO k hk2]
          have := relTo_get zs x x k hlt
          rw [List.getElem?_eq_getElem hk2] at this
          rw [Option.some.inj this]
        have hf0 : wr.frozen? ⟨g, k, none⟩ = false := by
          have e : n = (relTo zs x x k).length := by rw [relTo_len]; exact HN.out.symm
          rw [e] at HO
          exact World.ownsRow.frozenAt HO k
        have HSM : Hid (¬ zs[k] = x → relTo zs x x (k + 1) = relTo zs x x k) := relTo_same zs x x k hlt
        have HNX : Hid (zs[k] = x → relTo zs x x (k + 1) = (relTo zs x x k).set k x) := fun e => by rw [relTo_next zs x x k hlt, if_pos e]
        have HOW : Hid (∀ u : Int, Own (wr.setCell ⟨g, k, none⟩ (.int .i64 u)) B (.slice (some ⟨g, 0, none⟩) n cap) ((relTo zs x x k).set k u)) := fun u => by
          have e : n = (relTo zs x x k).length := by rw [relTo_len]; exact HN.out.symm
          rw [e] at HO ⊢
          exact HO.set k u
        clear HO
        generalize zs[k] = z at *
        by_cases hz : z = x
        · have d1 : (z == x) = true := beq_iff_eq.2 hz
          have HF : Hid (Own (wr.setCell ⟨g, k, none⟩ (.int .i64 x)) B (.slice (some ⟨g, 0, none⟩) n cap) (relTo zs x x (k + 1)) ∧ Since B W (wr.setCell ⟨g, k, none⟩ (.int .i64 x))) := ⟨by rw [HNX.out hz]; exact HOW.out x, HK.out.2.1.setCell HG.out _, by have := HK.out.2.2; simpa using this⟩
          clear HK HSM HNX HOW hz
          go_wp2
          go_roundw
          case rel => exact ⟨k + 1, by omega, by go_num, HF.out⟩
          case measure => simp [intOf]; omega
        · have d1 : (z == x) = false := beq_eq_false_iff_ne.2 hz
          have HF : Hid (Own wr B (.slice (some ⟨g, 0, none⟩) n cap) (relTo zs x x (k + 1)) ∧ Since B W wr) := ⟨by rw [HSM.out hz]; exact HK.out.1, HK.out.2⟩
          clear HK HSM HNX HOW hz hf0
          go_wp2
          go_roundw
          case rel => exact ⟨k + 1, by omega, by go_num, HF.out⟩
          case measure => simp [intOf]; omega
      · have hlt' : ¬ (k : Int) < (n : Int) := by omega
        have HF : Hid (Own wr B (.slice (some ⟨g, 0, none⟩) n cap) (relab zs x x) ∧ Since B W wr) := ⟨by
          have := HK.out.1
          rw [show k = zs.length by omega, relTo_all] at this
          exact this, HK.out.2⟩
        clear HK
        go_wp2
        exact bodyPost_end (v := .tuple #[]) (by simp [results, Try.results71]) rfl ⟨⟨_, rfl⟩, HF.out⟩
  · have h1 : y ≤ x := by omega
    have h2 : ¬ x ≤ y := by omega
    rw [Int.min_eq_right h1, Int.max_eq_left h1]
    clear hlt
    have HZ0 : Hid (Own W.drew B (.slice (some ⟨g, 0, none⟩) n cap) (relTo zs y x 0) ∧ Since B W W.drew) := HZ0'.out y x
    go_enter Try.func71, Try.ntmps71
    go_wp2
    refine wp_region_held_drew (S := (fun w' => w'.cell? ⟨g, a, none⟩ = some (.int .i64 x) ∧ w'.cell? ⟨g, b, none⟩ = some (.int .i64 y))) (by kernel_rfl) ?_ (fun hHeld => ?_)
    · exact HCC.out _ rfl
    refine handRead 0 (some 10) (.slice (some ⟨g, 0, none⟩) n cap) rfl rfl (by kernel_rfl) (by kernel_rfl) (by kernel_rfl) (fun _ _ _ h => h) (by kernel_rfl) (by assumption) ?_ ?_
    · intro w hSw
      (try dsimp only at hSw)
      go_simp
    simp only [Act.put, List.setIfInBounds_toArray, List.set_cons_zero, List.set_cons_succ]
    refine handRead 1 (some 11) (.int .i64 a) rfl rfl (by kernel_rfl) (by kernel_rfl) (by kernel_rfl) (fun _ _ _ h => h) (by kernel_rfl) (by assumption) ?_ ?_
    · intro w hSw
      (try dsimp only at hSw)
      go_simp
    simp only [Act.put, List.setIfInBounds_toArray, List.set_cons_zero, List.set_cons_succ]
    refine handRead 2 (some 12) (.pointer (some ⟨g, a, none⟩)) rfl rfl (by kernel_rfl) (by kernel_rfl) (by kernel_rfl) (fun _ _ _ h => h) (by kernel_rfl) (by assumption) ?_ ?_
    · intro w hSw
      (try dsimp only at hSw)
      go_simp
    simp only [Act.put, List.setIfInBounds_toArray, List.set_cons_zero, List.set_cons_succ]
    refine handRead 3 (some 13) (.int .i64 x) rfl rfl (by kernel_rfl) (by kernel_rfl) (by kernel_rfl) (fun _ _ _ h => h) (by kernel_rfl) (by assumption) ?_ ?_
    · intro w hSw
      (try dsimp only at hSw)
      go_simp
    simp only [Act.put, List.setIfInBounds_toArray, List.set_cons_zero, List.set_cons_succ]
    refine handRead 4 (some 14) (.slice (some ⟨g, 0, none⟩) n cap) rfl rfl (by kernel_rfl) (by kernel_rfl) (by kernel_rfl) (fun _ _ _ h => h) (by kernel_rfl) (by assumption) ?_ ?_
    · intro w hSw
      (try dsimp only at hSw)
      go_simp
    simp only [Act.put, List.setIfInBounds_toArray, List.set_cons_zero, List.set_cons_succ]
    refine handRead 5 (some 15) (.int .i64 b) rfl rfl (by kernel_rfl) (by kernel_rfl) (by kernel_rfl) (fun _ _ _ h => h) (by kernel_rfl) (by assumption) ?_ ?_
    · intro w hSw
      (try dsimp only at hSw)
      go_simp
    simp only [Act.put, List.setIfInBounds_toArray, List.set_cons_zero, List.set_cons_succ]
    refine handRead 6 (some 16) (.pointer (some ⟨g, b, none⟩)) rfl rfl (by kernel_rfl) (by kernel_rfl) (by kernel_rfl) (fun _ _ _ h => h) (by kernel_rfl) (by assumption) ?_ ?_
    · intro w hSw
      (try dsimp only at hSw)
      go_simp
    simp only [Act.put, List.setIfInBounds_toArray, List.set_cons_zero, List.set_cons_succ]
    refine handRead 7 (some 17) (.int .i64 y) rfl rfl (by kernel_rfl) (by kernel_rfl) (by kernel_rfl) (fun _ _ _ h => h) (by kernel_rfl) (by assumption) ?_ ?_
    · intro w hSw
      (try dsimp only at hSw)
      go_simp
    simp only [Act.put, List.setIfInBounds_toArray, List.set_cons_zero, List.set_cons_succ]
    refine handRead 8 (some 18) (.int .i64 y) rfl rfl (by kernel_rfl) (by kernel_rfl) (by kernel_rfl) (fun _ _ _ h => h) (by kernel_rfl) (by assumption) ?_ ?_
    · intro w hSw
      (try dsimp only at hSw)
      go_simp
      all_goals (intros; omega)
    simp only [Act.put, List.setIfInBounds_toArray, List.set_cons_zero, List.set_cons_succ]
    refine handRead 9 (some 19) (.slice (some ⟨g, 0, none⟩) n cap) rfl rfl (by kernel_rfl) (by kernel_rfl) (by kernel_rfl) (fun _ _ _ h => h) (by kernel_rfl) (by assumption) ?_ ?_
    · intro w hSw
      (try dsimp only at hSw)
      go_simp
    simp only [Act.put, List.setIfInBounds_toArray, List.set_cons_zero, List.set_cons_succ]
    refine handRead 10 (some 20) (.int .i64 a) rfl rfl (by kernel_rfl) (by kernel_rfl) (by kernel_rfl) (fun _ _ _ h => h) (by kernel_rfl) (by assumption) ?_ ?_
    · intro w hSw
      (try dsimp only at hSw)
      go_simp
    simp only [Act.put, List.setIfInBounds_toArray, List.set_cons_zero, List.set_cons_succ]
    refine handRead 11 (some 21) (.pointer (some ⟨g, a, none⟩)) rfl rfl (by kernel_rfl) (by kernel_rfl) (by kernel_rfl) (fun _ _ _ h => h) (by kernel_rfl) (by assumption) ?_ ?_
    · intro w hSw
      (try dsimp only at hSw)
      go_simp
    simp only [Act.put, List.setIfInBounds_toArray, List.set_cons_zero, List.set_cons_succ]
    refine handRead 12 (some 22) (.int .i64 x) rfl rfl (by kernel_rfl) (by kernel_rfl) (by kernel_rfl) (fun _ _ _ h => h) (by kernel_rfl) (by assumption) ?_ ?_
    · intro w hSw
      (try dsimp only at hSw)
      go_simp
    simp only [Act.put, List.setIfInBounds_toArray, List.set_cons_zero, List.set_cons_succ]
    refine handRead 13 (some 23) (.slice (some ⟨g, 0, none⟩) n cap) rfl rfl (by kernel_rfl) (by kernel_rfl) (by kernel_rfl) (fun _ _ _ h => h) (by kernel_rfl) (by assumption) ?_ ?_
    · intro w hSw
      (try dsimp only at hSw)
      go_simp
    simp only [Act.put, List.setIfInBounds_toArray, List.set_cons_zero, List.set_cons_succ]
    refine handRead 14 (some 24) (.int .i64 b) rfl rfl (by kernel_rfl) (by kernel_rfl) (by kernel_rfl) (fun _ _ _ h => h) (by kernel_rfl) (by assumption) ?_ ?_
    · intro w hSw
      (try dsimp only at hSw)
      go_simp
    simp only [Act.put, List.setIfInBounds_toArray, List.set_cons_zero, List.set_cons_succ]
    refine handRead 15 (some 25) (.pointer (some ⟨g, b, none⟩)) rfl rfl (by kernel_rfl) (by kernel_rfl) (by kernel_rfl) (fun _ _ _ h => h) (by kernel_rfl) (by assumption) ?_ ?_
    · intro w hSw
      (try dsimp only at hSw)
      go_simp
    simp only [Act.put, List.setIfInBounds_toArray, List.set_cons_zero, List.set_cons_succ]
    refine handRead 16 (some 26) (.int .i64 y) rfl rfl (by kernel_rfl) (by kernel_rfl) (by kernel_rfl) (fun _ _ _ h => h) (by kernel_rfl) (by assumption) ?_ ?_
    · intro w hSw
      (try dsimp only at hSw)
      go_simp
    simp only [Act.put, List.setIfInBounds_toArray, List.set_cons_zero, List.set_cons_succ]
    refine handRead 17 (some 27) (.int .i64 x) rfl rfl (by kernel_rfl) (by kernel_rfl) (by kernel_rfl) (fun _ _ _ h => h) (by kernel_rfl) (by assumption) ?_ ?_
    · intro w hSw
      (try dsimp only at hSw)
      go_simp
      all_goals (intros; omega)
    simp only [Act.put, List.setIfInBounds_toArray, List.set_cons_zero, List.set_cons_succ]
    refine handRead 18 (some 6) (.int .i64 y) rfl rfl (by kernel_rfl) (by kernel_rfl) (by kernel_rfl) (fun _ _ _ h => h) (by kernel_rfl) (by assumption) ?_ ?_
    · intro w hSw
      (try dsimp only at hSw)
      go_simp
    simp only [Act.put, List.setIfInBounds_toArray, List.set_cons_zero, List.set_cons_succ]
    refine handRead 19 (some 7) (.int .i64 x) rfl rfl (by kernel_rfl) (by kernel_rfl) (by kernel_rfl) (fun _ _ _ h => h) (by kernel_rfl) (by assumption) ?_ ?_
    · intro w hSw
      (try dsimp only at hSw)
      go_simp
    simp only [Act.put, List.setIfInBounds_toArray, List.set_cons_zero, List.set_cons_succ]
    refine wpAnyH_done (by kernel_rfl) ?_ _
    go_wp2
    go_loopw [30] (fun i wr => ∃ k : Nat, k ≤ zs.length ∧ i = .int .i64 k ∧ Hid (Own wr B (.slice (some ⟨g, 0, none⟩) n cap) (relTo zs y x k) ∧ Since B W wr)) (fun i _ => n - (intOf i).toNat)
    case atStart => exact ⟨0, Nat.zero_le _, rfl, HZ0.out⟩
    case round =>
      clear HZ0
      obtain ⟨k, hk, rfl, HK⟩ := hrel
      by_cases hlt : k < zs.length
      · have hlt' : (k : Int) < (n : Int) := by omega
        have HO := HK.out.1
        have hkn : k < n := by omega
        have c0 : wr.cell? ⟨g, k, none⟩ = some (.int .i64 zs[k]) := by
          have hk2 : k < (relTo zs y x k).length := by rw [relTo_len]; exact hlt
          have e : n = (relTo zs y x k).length := by rw [relTo_len]; exact HN.out.symm
          rw [e] at HO
          rw [own_cell HO k hk2]
          have := relTo_get zs y x k hlt
          rw [List.getElem?_eq_getElem hk2] at this
          rw [Option.some.inj this]
        have hf0 : wr.frozen? ⟨g, k, none⟩ = false := by
          have e : n = (relTo zs y x k).length := by rw [relTo_len]; exact HN.out.symm
          rw [e] at HO
          exact World.ownsRow.frozenAt HO k
        have HSM : Hid (¬ zs[k] = x → relTo zs y x (k + 1) = relTo zs y x k) := relTo_same zs y x k hlt
        have HNX : Hid (zs[k] = x → relTo zs y x (k + 1) = (relTo zs y x k).set k y) := fun e => by rw [relTo_next zs y x k hlt, if_pos e]
        have HOW : Hid (∀ u : Int, Own (wr.setCell ⟨g, k, none⟩ (.int .i64 u)) B (.slice (some ⟨g, 0, none⟩) n cap) ((relTo zs y x k).set k u)) := fun u => by
          have e : n = (relTo zs y x k).length := by rw [relTo_len]; exact HN.out.symm
          rw [e] at HO ⊢
          exact HO.set k u
        clear HO
        generalize zs[k] = z at *
        by_cases hz : z = x
        · have d1 : (z == x) = true := beq_iff_eq.2 hz
          have HF : Hid (Own (wr.setCell ⟨g, k, none⟩ (.int .i64 y)) B (.slice (some ⟨g, 0, none⟩) n cap) (relTo zs y x (k + 1)) ∧ Since B W (wr.setCell ⟨g, k, none⟩ (.int .i64 y))) := ⟨by rw [HNX.out hz]; exact HOW.out y, HK.out.2.1.setCell HG.out _, by have := HK.out.2.2; simpa using this⟩
          clear HK HSM HNX HOW hz
          go_wp2
          go_roundw
          case rel => exact ⟨k + 1, by omega, by go_num, HF.out⟩
          case measure => simp [intOf]; omega
        · have d1 : (z == x) = false := beq_eq_false_iff_ne.2 hz
          have HF : Hid (Own wr B (.slice (some ⟨g, 0, none⟩) n cap) (relTo zs y x (k + 1)) ∧ Since B W wr) := ⟨by rw [HSM.out hz]; exact HK.out.1, HK.out.2⟩
          clear HK HSM HNX HOW hz hf0
          go_wp2
          go_roundw
          case rel => exact ⟨k + 1, by omega, by go_num, HF.out⟩
          case measure => simp [intOf]; omega
      · have hlt' : ¬ (k : Int) < (n : Int) := by omega
        have HF : Hid (Own wr B (.slice (some ⟨g, 0, none⟩) n cap) (relab zs y x) ∧ Since B W wr) := ⟨by
          have := HK.out.1
          rw [show k = zs.length by omega, relTo_all] at this
          exact this, HK.out.2⟩
        clear HK
        go_wp2
        exact bodyPost_end (v := .tuple #[]) (by simp [results, Try.results71]) rfl ⟨⟨_, rfl⟩, HF.out⟩

set_option maxHeartbeats 2000000 in
theorem joinGroups_any (W : World) (B g cap n : Nat) (zs : List Int) (a b : Int) (h : Own W B (.slice (some ⟨g, 0, none⟩) n cap) zs) (hB : B ≤ W.heap.size) (hgB : B ≤ g) (hn : zs.length = n) (ha : 0 ≤ a ∧ a < n) (hb : 0 ≤ b ∧ b < n) (hn12 : n ≤ 12) :
    Calls Try.prog 71 #[.slice (some ⟨g, 0, none⟩) n cap, .int .i64 a, .int .i64 b] W fun e W' => (∃ v, e = .returned v) ∧ Own W' B (.slice (some ⟨g, 0, none⟩) n cap) (joinG zs a b) ∧ Since B W W' := by
  subst hn
  obtain ⟨p, rfl⟩ : ∃ p : Nat, a = (p : Int) := ⟨a.toNat, by omega⟩
  obtain ⟨q, rfl⟩ : ∃ q : Nat, b = (q : Int) := ⟨b.toNat, by omega⟩
  have hp : p < zs.length := by omega
  have hq : q < zs.length := by omega
  unfold joinG
  rw [lab_get zs p hp, lab_get zs q hq]
  exact relabel_walk W B g cap zs.length zs p q zs[p] zs[q] h hB hgB rfl hp hq (List.getElem?_eq_getElem hp) (List.getElem?_eq_getElem hq) hn12

set_option maxRecDepth 100000 in
set_option maxHeartbeats 4000000 in
theorem groupsOf_any (W : World) (v : Value) (n : Nat) (l : List EdD) (h : ReadsEd W v l) (hl : l.length ≤ 40) (hn0 : 1 ≤ n) (hn : n ≤ 12) (hf : FitEd (n : Int) l) :
    Calls Try.prog 43 #[.int .i64 (n : Int), v] W fun e W' => ∃ v', e = .returned v' ∧ Own W' W.heap.size v' (grp (n : Int) l) ∧ Below W.heap.size W W' := by
  obtain ⟨a1, c1, rfl, hc1⟩ := h
  have HS0 : Hid (Since W.heap.size W W) := Since.start W
  have HFT : Hid (FitEd (n : Int) l) := hf
  have HC0 : Hid (l = [] ∨ ∃ g off, a1 = some ⟨g, off, none⟩ ∧ g < W.heap.size ∧ ∀ j (hj : j < l.length), EdAt W g (off + j * 3) l[j]) := hc1
  clear hc1 hf
  go_enter Try.func43, Try.ntmps43
  go_wp2
  go_loopw [5, 10] (fun u i wr => ∃ k : Nat, k ≤ n ∧ i = .int .i64 k ∧ Hid (Own wr W.heap.size u (iota k) ∧ Since W.heap.size W wr)) (fun _ i _ => n - (intOf i).toNat)
  case atStart => exact ⟨0, Nat.zero_le _, rfl, Own.nil _ _, HS0.out⟩
  case round =>
    obtain ⟨k, hk, rfl, HK⟩ := hrel
    obtain ⟨a2, c2, rfl⟩ := HK.out.1.shape
    have eL := iota_len k
    rw [eL] at HK
    rw [eL]
    clear eL
    by_cases hlt : k < n
    · have hlt' : (k : Int) < (n : Int) := by omega
      have HZ : Hid (iota (k + 1) = iota k ++ [(k : Int)]) := iota_succ k
      have HLI : Hid ((iota k).length = k) := iota_len k
      have hb1 : Below wr.heap.size wr (wr.alloc (.cells #[.int .i64 (k : Int)] 3)) := (Below.refl _ wr).alloc (Nat.le_refl _) _
      have HC : Hid (∀ ty, ∃ v' w', (Builtin.append_ #[26, 26] ty #[.slice a2 k c2, .slice (some ⟨wr.heap.size, 0, none⟩) 1 1]).run Try.prog (wr.alloc (.cells #[.int .i64 (k : Int)] 3)) = .ok v' w' ∧ Grown (wr.alloc (.cells #[.int .i64 (k : Int)] 3)) W.heap.size 3 1 (.slice a2 k c2) (iota k ++ [(k : Int)]).length ((iota k ++ [(k : Int)]).map (Value.int .i64)) v' w') := fun ty =>
        run_app1 _ _ _ (iota k) (HK.out.1.below hb1) wr.heap.size 1 (k : Int) (new_cell _ _ _) (by rw [HLI.out]; omega) (by have := HK.out.2.2; simp; omega) ty
      have SQ1 : Hid (Since W.heap.size W (wr.alloc (.cells #[.int .i64 (k : Int)] 3))) := HK.out.2.step hb1
      clear hb1 HK
      go_wp2_with (at_builtin; refine list_app (by rfl) (.tmp 13) (.tmp 15) 26 (by rfl) (.slice a2 k c2) (.slice (some ⟨wr.heap.size, 0, none⟩) 1 1) (by rfl) (by rfl) _ HC.out ?_; intro v5 w5 hg5; have HF : Hid (Own w5 W.heap.size v5 (iota (k + 1)) ∧ Since W.heap.size W w5) := ⟨by rw [HZ.out]; exact hg5.own, ⟨SQ1.out.1.trans hg5.below, Nat.le_trans SQ1.out.2 hg5.size⟩⟩; clear hg5)
      go_roundw
      case rel => exact ⟨k + 1, by omega, by go_num, HF.out⟩
      case measure => simp [intOf]; omega
    · have hlt' : ¬ (k : Int) < (n : Int) := by omega
      have e : k = n := by omega
      subst e
      obtain ⟨g, cap, hv, hgB⟩ := own_at HK.out.1 (by rw [iota_len]; exact hn0)
      rw [iota_len] at hv
      have HI : Hid (Own wr W.heap.size (.slice a2 k c2) (grp (k : Int) []) ∧ Since W.heap.size W wr) := ⟨by show Own _ _ _ _; rw [show grp (k : Int) [] = iota k by simp [grp]]; exact HK.out.1, HK.out.2⟩
      have HGB : Hid (W.heap.size ≤ g) := hgB
      clear HK hgB
      simp only [Value.slice.injEq, true_and] at hv
      obtain ⟨rfl, rfl⟩ := hv
      have HLG : Hid (∀ j, (grp (k : Int) (l.take j)).length = k) := fun j => by
        have := grp_len (k : Int) (l.take j) (fun x hx => HFT.out x (List.mem_of_mem_take hx))
        simpa using this
      by_cases h4 : l = []
      · subst h4
        simp only [List.length_nil]
        clear HC0
        go_wp2
        refine wp_loop_rounds 1 ?_
        rw [rounds_succ]
        go_wp2
        go_ret
        exact ⟨_, rfl, HI.out.1, HI.out.2.1⟩
      obtain ⟨g1, o1, rfl, hg1, hc1⟩ := HC0.out.resolve_left h4
      have HC1 : Hid (∀ W1, Since W.heap.size W W1 → ∀ j (hj : j < l.length), EdAt W1 g1 (o1 + j * 3) l[j]) := fun W1 hS j hj => (hc1 j hj).below hg1 hS.1
      clear hc1 hg1 h4 HC0
      go_wp2
      go_loopw [20] (fun i wr => ∃ j : Nat, j ≤ l.length ∧ i = .int .i64 j ∧ Hid (Own wr W.heap.size (.slice (some ⟨g, 0, none⟩) k c2) (grp (k : Int) (l.take j)) ∧ Since W.heap.size W wr)) (fun i _ => l.length - (intOf i).toNat)
      case atStart => exact ⟨0, Nat.zero_le _, rfl, by rw [List.take_zero]; exact HI.out.1, HI.out.2⟩
      case round =>
        clear HI
        obtain ⟨j, hj, rfl, HK⟩ := hrel
        by_cases hlt : j < l.length
        · have hltj : (j : Int) < (l.length : Int) := by omega
          obtain ⟨q0, q1, q2⟩ := HC1.out wr HK.out.2 j hlt
          have HT : Hid (grp (k : Int) (l.take (j + 1)) = joinG (grp (k : Int) (l.take j)) l[j].A l[j].B) := by
            show _ = _
            rw [List.take_succ_eq_append_getElem hlt, grp_snoc]
          have HX1 : Hid ((0 ≤ l[j].A ∧ l[j].A < (k : Int)) ∧ (0 ≤ l[j].B ∧ l[j].B < (k : Int))) := ⟨(HFT.out _ (List.getElem_mem hlt)).1, (HFT.out _ (List.getElem_mem hlt)).2.1⟩
          generalize l[j] = x at *
          obtain ⟨c0, c1, c2'⟩ := newEd wr x (wr.alloc (.cells #[.int .i64 x.A, .int .i64 x.B, .int .i64 x.Cost] 84)) (Since.start _)
          have CJ : Hid (Calls Try.prog 71 #[.slice (some ⟨g, 0, none⟩) k c2, .int .i64 x.A, .int .i64 x.B] (wr.alloc (.cells #[.int .i64 x.A, .int .i64 x.B, .int .i64 x.Cost] 84)) fun e W' => (∃ v, e = .returned v) ∧ Own W' W.heap.size (.slice (some ⟨g, 0, none⟩) k c2) (grp (k : Int) (l.take (j + 1))) ∧ Since W.heap.size W W') := by
            rw [HT.out]
            refine (joinGroups_any _ W.heap.size g c2 k (grp (k : Int) (l.take j)) x.A x.B (HK.out.1.alloc _) (Nat.le_trans HK.out.2.2 (by simp)) HGB.out (HLG.out j) HX1.out.1 HX1.out.2 hn).mono ?_
            rintro e w2 ⟨he, ho, hs⟩
            exact ⟨he, ho, (HK.out.2.1.alloc HK.out.2.2 _).trans hs.1, hs.2⟩
          clear HK
          go_wp2_with fail
          refine CJ.out.mono ?_
          rintro e w2 ⟨⟨v2, rfl⟩, ho2, hs2⟩
          have HF : Hid (Own w2 W.heap.size (.slice (some ⟨g, 0, none⟩) k c2) (grp (k : Int) (l.take (j + 1))) ∧ Since W.heap.size W w2) := ⟨ho2, hs2⟩
          clear ho2 hs2 CJ c0 c1 c2'
          go_wp2
          go_roundw
          case rel => exact ⟨j + 1, by omega, by go_num, HF.out⟩
          case measure => simp [intOf]; omega
        · have hltj : ¬ (j : Int) < (l.length : Int) := by omega
          have HF : Hid (Own wr W.heap.size (.slice (some ⟨g, 0, none⟩) k c2) (grp (k : Int) l) ∧ Below W.heap.size W wr) := ⟨by
            have := HK.out.1
            rw [List.take_of_length_le (show l.length ≤ j by omega)] at this
            exact this, HK.out.2.1⟩
          clear HK
          go_wp2
          go_ret
          exact ⟨_, rfl, HF.out⟩
end Go.Proofs.Ythlbmkefjjckaad
