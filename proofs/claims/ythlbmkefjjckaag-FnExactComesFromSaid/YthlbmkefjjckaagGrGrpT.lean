/-
  'joinGroups' writes into the groups alone.
-/
import Derived.Test.YthlbmkefjjckaagGrGrp
import Derived.Test.YthlbmkefjjckaagRowSS
namespace Go.Proofs.Ythlbmkefjjckaag
open Go.RowKit
set_option linter.unusedVariables false

theorem Turned.setT {P : Nat → Prop} {W w : World} (h : Turned P W w) {p : Addr} (hp : P p.block ∨ W.heap.size ≤ p.block) (u : Value) : Turned P W (w.setCell p u) :=
  ⟨h.os, h.tape, h.output, by have := h.size; simpa [World.setCell] using this, fun j hj hn => (Below.heap_setCell _ _ _ _ (fun e => by
    rcases hp with hp | hp
    · exact hn (by rw [e]; exact hp)
    · omega)).trans (h.block j hj hn)⟩
theorem Turned.ofB {P : Nat → Prop} {W W' : World} (h : Below W.heap.size W W') : Turned P W W' := ⟨h.os, h.tape, h.output, h.size, fun j hj _ => h.block j hj⟩
theorem Turned.tran {P : Nat → Prop} {W w w' : World} (h : Turned P W w) (h' : Turned P w w') : Turned P W w' :=
  ⟨h'.os.trans h.os, h'.tape.trans h.tape, h'.output.trans h.output, Nat.le_trans h.size h'.size, fun j hj hn => (h'.block j (Nat.lt_of_lt_of_le hj h.size) hn).trans (h.block j hj hn)⟩
set_option maxRecDepth 100000 in
set_option maxHeartbeats 4000000 in
theorem relabel_walkT (W : World) (B g cap n : Nat) (zs : List Int) (a b : Nat) (x y : Int) (h : Own W B (.slice (some ⟨g, 0, none⟩) zs.length cap) zs) (hB : B ≤ W.heap.size) (hgB : B ≤ g) (hn : zs.length = n) (ha : a < n) (hb : b < n) (hx : zs[a]? = some x) (hy : zs[b]? = some y) (hn12 : n ≤ 12) :
    Calls Try.prog 59 #[.slice (some ⟨g, 0, none⟩) n cap, .int .i64 (a : Int), .int .i64 (b : Int)] W fun e W' => (∃ v, e = .returned v) ∧ Own W' B (.slice (some ⟨g, 0, none⟩) n cap) (relab zs (min x y) (max x y)) ∧ Turned (fun j => j = g) W W' := by
  have HCC : Hid (∀ w' : World, w'.heap = W.heap → w'.cell? ⟨g, a, none⟩ = some (.int .i64 x) ∧ w'.cell? ⟨g, b, none⟩ = some (.int .i64 y)) := fun w' e => by
    have h1 := own_cell h a (by omega)
    have h2 := own_cell h b (by omega)
    rw [List.getElem?_eq_getElem (by omega)] at hx hy
    rw [Option.some.inj hx] at h1
    rw [Option.some.inj hy] at h2
    unfold World.cell? at h1 h2 ⊢
    rw [e]
    exact ⟨h1, h2⟩
  have HZ0' : Hid (∀ p q, Own W.drew B (.slice (some ⟨g, 0, none⟩) n cap) (relTo zs p q 0) ∧ Turned (fun j => j = g) W W.drew) := fun p q => ⟨by rw [relTo_zero, ← hn]; exact h.drew, Turned.ofB (Below.refl _ _).drew⟩
  have HN : Hid (zs.length = n) := hn
  have HG : Hid (B ≤ g) := hgB
  have ha' : (a : Int) < (n : Int) := by omega
  have hb' : (b : Int) < (n : Int) := by omega
  clear h hB hgB hx hy
  rcases Int.lt_trichotomy x y with hlt | hlt | hlt
  · have h1 : x ≤ y := by omega
    have h2 : ¬ y ≤ x := by omega
    rw [Int.min_eq_left h1, Int.max_eq_right h1]
    clear hlt
    have HZ0 : Hid (Own W.drew B (.slice (some ⟨g, 0, none⟩) n cap) (relTo zs x y 0) ∧ Turned (fun j => j = g) W W.drew) := HZ0'.out x y
    go_enter Try.func59, Try.ntmps59
    go_wp2
    refine wp_region_held_drew (S := (fun w' => w'.cell? ⟨g, a, none⟩ = some (.int .i64 x) ∧ w'.cell? ⟨g, b, none⟩ = some (.int .i64 y))) (by kernel_rfl) ?_ (fun hHeld => ?_)
    · exact HCC.out _ rfl
    refine handRead 0 (some 10) (.slice (some ⟨g, 0, none⟩) n cap) rfl rfl (by kernel_rfl) (by kernel_rfl) (by kernel_rfl) (fun _ _ _ h => h) (by kernel_rfl) (by assumption) ?_ ?_
    · intro w hSw
      (try dsimp only at hSw)
      go_simp
    simp only [Act.put, List.setIfInBounds_toArray, List.set_cons_zero, List.set_cons_succ]
    refine handRead 1 (some 11) (.int .i64 a) rfl rfl (by kernel_rfl) (by kernel_rfl) (by kernel_rfl) (fun _ _ _ h => h) (by kernel_rfl) (by assumption) ?_ ?_
    · intro w hSw
      (try dsimp only at hSw)
      go_simp
    simp only [Act.put, List.setIfInBounds_toArray, List.set_cons_zero, List.set_cons_succ]
    refine handRead 2 (some 12) (.pointer (some ⟨g, a, none⟩)) rfl rfl (by kernel_rfl) (by kernel_rfl) (by kernel_rfl) (fun _ _ _ h => h) (by kernel_rfl) (by assumption) ?_ ?_
    · intro w hSw
      (try dsimp only at hSw)
      go_simp
    simp only [Act.put, List.setIfInBounds_toArray, List.set_cons_zero, List.set_cons_succ]
    refine handRead 3 (some 13) (.int .i64 x) rfl rfl (by kernel_rfl) (by kernel_rfl) (by kernel_rfl) (fun _ _ _ h => h) (by kernel_rfl) (by assumption) ?_ ?_
    · intro w hSw
      (try dsimp only at hSw)
      go_simp
    simp only [Act.put, List.setIfInBounds_toArray, List.set_cons_zero, List.set_cons_succ]
    refine handRead 4 (some 14) (.slice (some ⟨g, 0, none⟩) n cap) rfl rfl (by kernel_rfl) (by kernel_rfl) (by kernel_rfl) (fun _ _ _ h => h) (by kernel_rfl) (by assumption) ?_ ?_
    · intro w hSw
      (try dsimp only at hSw)
      go_simp
    simp only [Act.put, List.setIfInBounds_toArray, List.set_cons_zero, List.set_cons_succ]
    refine handRead 5 (some 15) (.int .i64 b) rfl rfl (by kernel_rfl) (by kernel_rfl) (by kernel_rfl) (fun _ _ _ h => h) (by kernel_rfl) (by assumption) ?_ ?_
    · intro w hSw
      (try dsimp only at hSw)
      go_simp
    simp only [Act.put, List.setIfInBounds_toArray, List.set_cons_zero, List.set_cons_succ]
    refine handRead 6 (some 16) (.pointer (some ⟨g, b, none⟩)) rfl rfl (by kernel_rfl) (by kernel_rfl) (by kernel_rfl) (fun _ _ _ h => h) (by kernel_rfl) (by assumption) ?_ ?_
    · intro w hSw
      (try dsimp only at hSw)
      go_simp
    simp only [Act.put, List.setIfInBounds_toArray, List.set_cons_zero, List.set_cons_succ]
    refine handRead 7 (some 17) (.int .i64 y) rfl rfl (by kernel_rfl) (by kernel_rfl) (by kernel_rfl) (fun _ _ _ h => h) (by kernel_rfl) (by assumption) ?_ ?_
    · intro w hSw
      (try dsimp only at hSw)
      go_simp
    simp only [Act.put, List.setIfInBounds_toArray, List.set_cons_zero, List.set_cons_succ]
    refine handRead 8 (some 18) (.int .i64 x) rfl rfl (by kernel_rfl) (by kernel_rfl) (by kernel_rfl) (fun _ _ _ h => h) (by kernel_rfl) (by assumption) ?_ ?_
    · intro w hSw
      (try dsimp only at hSw)
      go_simp
      all_goals (intros; omega)
    simp only [Act.put, List.setIfInBounds_toArray, List.set_cons_zero, List.set_cons_succ]
    refine handRead 9 (some 19) (.slice (some ⟨g, 0, none⟩) n cap) rfl rfl (by kernel_rfl) (by kernel_rfl) (by kernel_rfl) (fun _ _ _ h => h) (by kernel_rfl) (by assumption) ?_ ?_
    · intro w hSw
      (try dsimp only at hSw)
      go_simp
    simp only [Act.put, List.setIfInBounds_toArray, List.set_cons_zero, List.set_cons_succ]
    refine handRead 10 (some 20) (.int .i64 a) rfl rfl (by kernel_rfl) (by kernel_rfl) (by kernel_rfl) (fun _ _ _ h => h) (by kernel_rfl) (by assumption) ?_ ?_
    · intro w hSw
      (try dsimp only at hSw)
      go_simp
    simp only [Act.put, List.setIfInBounds_toArray, List.set_cons_zero, List.set_cons_succ]
    refine handRead 11 (some 21) (.pointer (some ⟨g, a, none⟩)) rfl rfl (by kernel_rfl) (by kernel_rfl) (by kernel_rfl) (fun _ _ _ h => h) (by kernel_rfl) (by assumption) ?_ ?_
    · intro w hSw
      (try dsimp only at hSw)
      go_simp
    simp only [Act.put, List.setIfInBounds_toArray, List.set_cons_zero, List.set_cons_succ]
    refine handRead 12 (some 22) (.int .i64 x) rfl rfl (by kernel_rfl) (by kernel_rfl) (by kernel_rfl) (fun _ _ _ h => h) (by kernel_rfl) (by assumption) ?_ ?_
    · intro w hSw
      (try dsimp only at hSw)
      go_simp
    simp only [Act.put, List.setIfInBounds_toArray, List.set_cons_zero, List.set_cons_succ]
    refine handRead 13 (some 23) (.slice (some ⟨g, 0, none⟩) n cap) rfl rfl (by kernel_rfl) (by kernel_rfl) (by kernel_rfl) (fun _ _ _ h => h) (by kernel_rfl) (by assumption) ?_ ?_
    · intro w hSw
      (try dsimp only at hSw)
      go_simp
    simp only [Act.put, List.setIfInBounds_toArray, List.set_cons_zero, List.set_cons_succ]
    refine handRead 14 (some 24) (.int .i64 b) rfl rfl (by kernel_rfl) (by kernel_rfl) (by kernel_rfl) (fun _ _ _ h => h) (by kernel_rfl) (by assumption) ?_ ?_
    · intro w hSw
      (try dsimp only at hSw)
      go_simp
    simp only [Act.put, List.setIfInBounds_toArray, List.set_cons_zero, List.set_cons_succ]
    refine handRead 15 (some 25) (.pointer (some ⟨g, b, none⟩)) rfl rfl (by kernel_rfl) (by kernel_rfl) (by kernel_rfl) (fun _ _ _ h => h) (by kernel_rfl) (by assumption) ?_ ?_
    · intro w hSw
      (try dsimp only at hSw)
      go_simp
    simp only [Act.put, List.setIfInBounds_toArray, List.set_cons_zero, List.set_cons_succ]
    refine handRead 16 (some 26) (.int .i64 y) rfl rfl (by kernel_rfl) (by kernel_rfl) (by kernel_rfl) (fun _ _ _ h => h) (by kernel_rfl) (by assumption) ?_ ?_
    · intro w hSw
      (try dsimp only at hSw)
      go_simp
    simp only [Act.put, List.setIfInBounds_toArray, List.set_cons_zero, List.set_cons_succ]
    refine handRead 17 (some 27) (.int .i64 y) rfl rfl (by kernel_rfl) (by kernel_rfl) (by kernel_rfl) (fun _ _ _ h => h) (by kernel_rfl) (by assumption) ?_ ?_
    · intro w hSw
      (try dsimp only at hSw)
      go_simp
      all_goals (intros; omega)
    simp only [Act.put, List.setIfInBounds_toArray, List.set_cons_zero, List.set_cons_succ]
    refine handRead 18 (some 6) (.int .i64 x) rfl rfl (by kernel_rfl) (by kernel_rfl) (by kernel_rfl) (fun _ _ _ h => h) (by kernel_rfl) (by assumption) ?_ ?_
    · intro w hSw
      (try dsimp only at hSw)
      go_simp
    simp only [Act.put, List.setIfInBounds_toArray, List.set_cons_zero, List.set_cons_succ]
    refine handRead 19 (some 7) (.int .i64 y) rfl rfl (by kernel_rfl) (by kernel_rfl) (by kernel_rfl) (fun _ _ _ h => h) (by kernel_rfl) (by assumption) ?_ ?_
    · intro w hSw
      (try dsimp only at hSw)
      go_simp
    simp only [Act.put, List.setIfInBounds_toArray, List.set_cons_zero, List.set_cons_succ]
    refine wpAnyH_done (by kernel_rfl) ?_ _
    go_wp2
    go_loopw [30] (fun i wr => ∃ k : Nat, k ≤ zs.length ∧ i = .int .i64 k ∧ Hid (Own wr B (.slice (some ⟨g, 0, none⟩) n cap) (relTo zs x y k) ∧ Turned (fun j => j = g) W wr)) (fun i _ => n - (intOf i).toNat)
    case atStart => exact ⟨0, Nat.zero_le _, rfl, HZ0.out⟩
    case round =>
      clear HZ0
      obtain ⟨k, hk, rfl, HK⟩ := hrel
      by_cases hlt : k < zs.length
      · have hlt' : (k : Int) < (n : Int) := by omega
        have HO := HK.out.1
        have hkn : k < n := by omega
        have c0 : wr.cell? ⟨g, k, none⟩ = some (.int .i64 zs[k]) := by
          have hk2 : k < (relTo zs x y k).length := by rw [relTo_len]; exact hlt
          have e : n = (relTo zs x y k).length := by rw [relTo_len]; exact HN.out.symm
          rw [e] at HO
          rw [own_cell HO k hk2]
          have := relTo_get zs x y k hlt
          rw [List.getElem?_eq_getElem hk2] at this
          rw [Option.some.inj this]
        have hf0 : wr.frozen? ⟨g, k, none⟩ = false := by
          have e : n = (relTo zs x y k).length := by rw [relTo_len]; exact HN.out.symm
          rw [e] at HO
          exact World.ownsRow.frozenAt HO k
        have HSM : Hid (¬ zs[k] = y → relTo zs x y (k + 1) = relTo zs x y k) := relTo_same zs x y k hlt
        have HNX : Hid (zs[k] = y → relTo zs x y (k + 1) = (relTo zs x y k).set k x) := fun e => by rw [relTo_next zs x y k hlt, if_pos e]
        have HOW : Hid (∀ u : Int, Own (wr.setCell ⟨g, k, none⟩ (.int .i64 u)) B (.slice (some ⟨g, 0, none⟩) n cap) ((relTo zs x y k).set k u)) := fun u => by
          have e : n = (relTo zs x y k).length := by rw [relTo_len]; exact HN.out.symm
          rw [e] at HO ⊢
          exact HO.set k u
        clear HO
        generalize zs[k] = z at *
        by_cases hz : z = y
        · have d1 : (z == y) = true := beq_iff_eq.2 hz
          have HF : Hid (Own (wr.setCell ⟨g, k, none⟩ (.int .i64 x)) B (.slice (some ⟨g, 0, none⟩) n cap) (relTo zs x y (k + 1)) ∧ Turned (fun j => j = g) W (wr.setCell ⟨g, k, none⟩ (.int .i64 x))) := ⟨by rw [HNX.out hz]; exact HOW.out x, HK.out.2.setT (.inl rfl) _⟩
          clear HK HSM HNX HOW hz
          go_wp2
          go_roundw
          case rel => exact ⟨k + 1, by omega, by go_num, HF.out⟩
          case measure => simp [intOf]; omega
        · have d1 : (z == y) = false := beq_eq_false_iff_ne.2 hz
          have HF : Hid (Own wr B (.slice (some ⟨g, 0, none⟩) n cap) (relTo zs x y (k + 1)) ∧ Turned (fun j => j = g) W wr) := ⟨by rw [HSM.out hz]; exact HK.out.1, HK.out.2⟩
          clear HK HSM HNX HOW hz hf0
          go_wp2
          go_roundw
          case rel => exact ⟨k + 1, by omega, by go_num, HF.out⟩
          case measure => simp [intOf]; omega
      · have hlt' : ¬ (k : Int) < (n : Int) := by omega
        have HF : Hid (Own wr B (.slice (some ⟨g, 0, none⟩) n cap) (relab zs x y) ∧ Turned (fun j => j = g) W wr) := ⟨by
          have := HK.out.1
          rw [show k = zs.length by omega, relTo_all] at this
          exact this, HK.out.2⟩
        clear HK
        go_wp2
        exact bodyPost_end (v := .tuple #[]) (by simp [results, Try.results59]) rfl ⟨⟨_, rfl⟩, HF.out⟩
  · subst hlt
    have h1 : x ≤ x := Int.le_refl _
    rw [Int.min_eq_left h1, Int.max_eq_right h1]
    have HZ0 : Hid (Own W.drew B (.slice (some ⟨g, 0, none⟩) n cap) (relTo zs x x 0) ∧ Turned (fun j => j = g) W W.drew) := HZ0'.out x x
    go_enter Try.func59, Try.ntmps59
    go_wp2
    refine wp_region_held_drew (S := (fun w' => w'.cell? ⟨g, a, none⟩ = some (.int .i64 x) ∧ w'.cell? ⟨g, b, none⟩ = some (.int .i64 x))) (by kernel_rfl) ?_ (fun hHeld => ?_)
    · exact HCC.out _ rfl
    refine handRead 0 (some 10) (.slice (some ⟨g, 0, none⟩) n cap) rfl rfl (by kernel_rfl) (by kernel_rfl) (by kernel_rfl) (fun _ _ _ h => h) (by kernel_rfl) (by assumption) ?_ ?_
    · intro w hSw
      (try dsimp only at hSw)
      go_simp
    simp only [Act.put, List.setIfInBounds_toArray, List.set_cons_zero, List.set_cons_succ]
    refine handRead 1 (some 11) (.int .i64 a) rfl rfl (by kernel_rfl) (by kernel_rfl) (by kernel_rfl) (fun _ _ _ h => h) (by kernel_rfl) (by assumption) ?_ ?_
    · intro w hSw
      (try dsimp only at hSw)
      go_simp
    simp only [Act.put, List.setIfInBounds_toArray, List.set_cons_zero, List.set_cons_succ]
    refine handRead 2 (some 12) (.pointer (some ⟨g, a, none⟩)) rfl rfl (by kernel_rfl) (by kernel_rfl) (by kernel_rfl) (fun _ _ _ h => h) (by kernel_rfl) (by assumption) ?_ ?_
    · intro w hSw
      (try dsimp only at hSw)
      go_simp
    simp only [Act.put, List.setIfInBounds_toArray, List.set_cons_zero, List.set_cons_succ]
    refine handRead 3 (some 13) (.int .i64 x) rfl rfl (by kernel_rfl) (by kernel_rfl) (by kernel_rfl) (fun _ _ _ h => h) (by kernel_rfl) (by assumption) ?_ ?_
    · intro w hSw
      (try dsimp only at hSw)
      go_simp
    simp only [Act.put, List.setIfInBounds_toArray, List.set_cons_zero, List.set_cons_succ]
    refine handRead 4 (some 14) (.slice (some ⟨g, 0, none⟩) n cap) rfl rfl (by kernel_rfl) (by kernel_rfl) (by kernel_rfl) (fun _ _ _ h => h) (by kernel_rfl) (by assumption) ?_ ?_
    · intro w hSw
      (try dsimp only at hSw)
      go_simp
    simp only [Act.put, List.setIfInBounds_toArray, List.set_cons_zero, List.set_cons_succ]
    refine handRead 5 (some 15) (.int .i64 b) rfl rfl (by kernel_rfl) (by kernel_rfl) (by kernel_rfl) (fun _ _ _ h => h) (by kernel_rfl) (by assumption) ?_ ?_
    · intro w hSw
      (try dsimp only at hSw)
      go_simp
    simp only [Act.put, List.setIfInBounds_toArray, List.set_cons_zero, List.set_cons_succ]
    refine handRead 6 (some 16) (.pointer (some ⟨g, b, none⟩)) rfl rfl (by kernel_rfl) (by kernel_rfl) (by kernel_rfl) (fun _ _ _ h => h) (by kernel_rfl) (by assumption) ?_ ?_
    · intro w hSw
      (try dsimp only at hSw)
      go_simp
    simp only [Act.put, List.setIfInBounds_toArray, List.set_cons_zero, List.set_cons_succ]
    refine handRead 7 (some 17) (.int .i64 x) rfl rfl (by kernel_rfl) (by kernel_rfl) (by kernel_rfl) (fun _ _ _ h => h) (by kernel_rfl) (by assumption) ?_ ?_
    · intro w hSw
      (try dsimp only at hSw)
      go_simp
    simp only [Act.put, List.setIfInBounds_toArray, List.set_cons_zero, List.set_cons_succ]
    refine handRead 8 (some 18) (.int .i64 x) rfl rfl (by kernel_rfl) (by kernel_rfl) (by kernel_rfl) (fun _ _ _ h => h) (by kernel_rfl) (by assumption) ?_ ?_
    · intro w hSw
      (try dsimp only at hSw)
      go_simp
      all_goals (intros; omega)
    simp only [Act.put, List.setIfInBounds_toArray, List.set_cons_zero, List.set_cons_succ]
    refine handRead 9 (some 19) (.slice (some ⟨g, 0, none⟩) n cap) rfl rfl (by kernel_rfl) (by kernel_rfl) (by kernel_rfl) (fun _ _ _ h => h) (by kernel_rfl) (by assumption) ?_ ?_
    · intro w hSw
      (try dsimp only at hSw)
      go_simp
    simp only [Act.put, List.setIfInBounds_toArray, List.set_cons_zero, List.set_cons_succ]
    refine handRead 10 (some 20) (.int .i64 a) rfl rfl (by kernel_rfl) (by kernel_rfl) (by kernel_rfl) (fun _ _ _ h => h) (by kernel_rfl) (by assumption) ?_ ?_
    · intro w hSw
      (try dsimp only at hSw)
      go_simp
    simp only [Act.put, List.setIfInBounds_toArray, List.set_cons_zero, List.set_cons_succ]
    refine handRead 11 (some 21) (.pointer (some ⟨g, a, none⟩)) rfl rfl (by kernel_rfl) (by kernel_rfl) (by kernel_rfl) (fun _ _ _ h => h) (by kernel_rfl) (by assumption) ?_ ?_
    · intro w hSw
      (try dsimp only at hSw)
      go_simp
    simp only [Act.put, List.setIfInBounds_toArray, List.set_cons_zero, List.set_cons_succ]
    refine handRead 12 (some 22) (.int .i64 x) rfl rfl (by kernel_rfl) (by kernel_rfl) (by kernel_rfl) (fun _ _ _ h => h) (by kernel_rfl) (by assumption) ?_ ?_
    · intro w hSw
      (try dsimp only at hSw)
      go_simp
    simp only [Act.put, List.setIfInBounds_toArray, List.set_cons_zero, List.set_cons_succ]
    refine handRead 13 (some 23) (.slice (some ⟨g, 0, none⟩) n cap) rfl rfl (by kernel_rfl) (by kernel_rfl) (by kernel_rfl) (fun _ _ _ h => h) (by kernel_rfl) (by assumption) ?_ ?_
    · intro w hSw
      (try dsimp only at hSw)
      go_simp
    simp only [Act.put, List.setIfInBounds_toArray, List.set_cons_zero, List.set_cons_succ]
    refine handRead 14 (some 24) (.int .i64 b) rfl rfl (by kernel_rfl) (by kernel_rfl) (by kernel_rfl) (fun _ _ _ h => h) (by kernel_rfl) (by assumption) ?_ ?_
    · intro w hSw
      (try dsimp only at hSw)
      go_simp
    simp only [Act.put, List.setIfInBounds_toArray, List.set_cons_zero, List.set_cons_succ]
    refine handRead 15 (some 25) (.pointer (some ⟨g, b, none⟩)) rfl rfl (by kernel_rfl) (by kernel_rfl) (by kernel_rfl) (fun _ _ _ h => h) (by kernel_rfl) (by assumption) ?_ ?_
    · intro w hSw
      (try dsimp only at hSw)
      go_simp
    simp only [Act.put, List.setIfInBounds_toArray, List.set_cons_zero, List.set_cons_succ]
    refine handRead 16 (some 26) (.int .i64 x) rfl rfl (by kernel_rfl) (by kernel_rfl) (by kernel_rfl) (fun _ _ _ h => h) (by kernel_rfl) (by assumption) ?_ ?_
    · intro w hSw
      (try dsimp only at hSw)
      go_simp
    simp only [Act.put, List.setIfInBounds_toArray, List.set_cons_zero, List.set_cons_succ]
    refine handRead 17 (some 27) (.int .i64 x) rfl rfl (by kernel_rfl) (by kernel_rfl) (by kernel_rfl) (fun _ _ _ h => h) (by kernel_rfl) (by assumption) ?_ ?_
    · intro w hSw
      (try dsimp only at hSw)
      go_simp
      all_goals (intros; omega)
    simp only [Act.put, List.setIfInBounds_toArray, List.set_cons_zero, List.set_cons_succ]
    refine handRead 18 (some 6) (.int .i64 x) rfl rfl (by kernel_rfl) (by kernel_rfl) (by kernel_rfl) (fun _ _ _ h => h) (by kernel_rfl) (by assumption) ?_ ?_
    · intro w hSw
      (try dsimp only at hSw)
      go_simp
    simp only [Act.put, List.setIfInBounds_toArray, List.set_cons_zero, List.set_cons_succ]
    refine handRead 19 (some 7) (.int .i64 x) rfl rfl (by kernel_rfl) (by kernel_rfl) (by kernel_rfl) (fun _ _ _ h => h) (by kernel_rfl) (by assumption) ?_ ?_
    · intro w hSw
      (try dsimp only at hSw)
      go_simp
    simp only [Act.put, List.setIfInBounds_toArray, List.set_cons_zero, List.set_cons_succ]
    refine wpAnyH_done (by kernel_rfl) ?_ _
    go_wp2
    go_loopw [30] (fun i wr => ∃ k : Nat, k ≤ zs.length ∧ i = .int .i64 k ∧ Hid (Own wr B (.slice (some ⟨g, 0, none⟩) n cap) (relTo zs x x k) ∧ Turned (fun j => j = g) W wr)) (fun i _ => n - (intOf i).toNat)
    case atStart => exact ⟨0, Nat.zero_le _, rfl, HZ0.out⟩
    case round =>
      clear HZ0
      obtain ⟨k, hk, rfl, HK⟩ := hrel
      by_cases hlt : k < zs.length
      · have hlt' : (k : Int) < (n : Int) := by omega
        have HO := HK.out.1
        have hkn : k < n := by omega
        have c0 : wr.cell? ⟨g, k, none⟩ = some (.int .i64 zs[k]) := by
          have hk2 : k < (relTo zs x x k).length := by rw [relTo_len]; exact hlt
          have e : n = (relTo zs x x k).length := by rw [relTo_len]; exact HN.out.symm
          rw [e] at HO
          rw [own_cell HO k hk2]
          have := relTo_get zs x x k hlt
          rw [List.getElem?_eq_getElem hk2] at this
          rw [Option.some.inj this]
        have hf0 : wr.frozen? ⟨g, k, none⟩ = false := by
          have e : n = (relTo zs x x k).length := by rw [relTo_len]; exact HN.out.symm
          rw [e] at HO
          exact World.ownsRow.frozenAt HO k
        have HSM : Hid (¬ zs[k] = x → relTo zs x x (k + 1) = relTo zs x x k) := relTo_same zs x x k hlt
        have HNX : Hid (zs[k] = x → relTo zs x x (k + 1) = (relTo zs x x k).set k x) := fun e => by rw [relTo_next zs x x k hlt, if_pos e]
        have HOW : Hid (∀ u : Int, Own (wr.setCell ⟨g, k, none⟩ (.int .i64 u)) B (.slice (some ⟨g, 0, none⟩) n cap) ((relTo zs x x k).set k u)) := fun u => by
          have e : n = (relTo zs x x k).length := by rw [relTo_len]; exact HN.out.symm
          rw [e] at HO ⊢
          exact HO.set k u
        clear HO
        generalize zs[k] = z at *
        by_cases hz : z = x
        · have d1 : (z == x) = true := beq_iff_eq.2 hz
          have HF : Hid (Own (wr.setCell ⟨g, k, none⟩ (.int .i64 x)) B (.slice (some ⟨g, 0, none⟩) n cap) (relTo zs x x (k + 1)) ∧ Turned (fun j => j = g) W (wr.setCell ⟨g, k, none⟩ (.int .i64 x))) := ⟨by rw [HNX.out hz]; exact HOW.out x, HK.out.2.setT (.inl rfl) _⟩
          clear HK HSM HNX HOW hz
          go_wp2
          go_roundw
          case rel => exact ⟨k + 1, by omega, by go_num, HF.out⟩
          case measure => simp [intOf]; omega
        · have d1 : (z == x) = false := beq_eq_false_iff_ne.2 hz
          have HF : Hid (Own wr B (.slice (some ⟨g, 0, none⟩) n cap) (relTo zs x x (k + 1)) ∧ Turned (fun j => j = g) W wr) := ⟨by rw [HSM.out hz]; exact HK.out.1, HK.out.2⟩
          clear HK HSM HNX HOW hz hf0
          go_wp2
          go_roundw
          case rel => exact ⟨k + 1, by omega, by go_num, HF.out⟩
          case measure => simp [intOf]; omega
      · have hlt' : ¬ (k : Int) < (n : Int) := by omega
        have HF : Hid (Own wr B (.slice (some ⟨g, 0, none⟩) n cap) (relab zs x x) ∧ Turned (fun j => j = g) W wr) := ⟨by
          have := HK.out.1
          rw [show k = zs.length by omega, relTo_all] at this
          exact this, HK.out.2⟩
        clear HK
        go_wp2
        exact bodyPost_end (v := .tuple #[]) (by simp [results, Try.results59]) rfl ⟨⟨_, rfl⟩, HF.out⟩
  · have h1 : y ≤ x := by omega
    have h2 : ¬ x ≤ y := by omega
    rw [Int.min_eq_right h1, Int.max_eq_left h1]
    clear hlt
    have HZ0 : Hid (Own W.drew B (.slice (some ⟨g, 0, none⟩) n cap) (relTo zs y x 0) ∧ Turned (fun j => j = g) W W.drew) := HZ0'.out y x
    go_enter Try.func59, Try.ntmps59
    go_wp2
    refine wp_region_held_drew (S := (fun w' => w'.cell? ⟨g, a, none⟩ = some (.int .i64 x) ∧ w'.cell? ⟨g, b, none⟩ = some (.int .i64 y))) (by kernel_rfl) ?_ (fun hHeld => ?_)
    · exact HCC.out _ rfl
    refine handRead 0 (some 10) (.slice (some ⟨g, 0, none⟩) n cap) rfl rfl (by kernel_rfl) (by kernel_rfl) (by kernel_rfl) (fun _ _ _ h => h) (by kernel_rfl) (by assumption) ?_ ?_
    · intro w hSw
      (try dsimp only at hSw)
      go_simp
    simp only [Act.put, List.setIfInBounds_toArray, List.set_cons_zero, List.set_cons_succ]
    refine handRead 1 (some 11) (.int .i64 a) rfl rfl (by kernel_rfl) (by kernel_rfl) (by kernel_rfl) (fun _ _ _ h => h) (by kernel_rfl) (by assumption) ?_ ?_
    · intro w hSw
      (try dsimp only at hSw)
      go_simp
    simp only [Act.put, List.setIfInBounds_toArray, List.set_cons_zero, List.set_cons_succ]
    refine handRead 2 (some 12) (.pointer (some ⟨g, a, none⟩)) rfl rfl (by kernel_rfl) (by kernel_rfl) (by kernel_rfl) (fun _ _ _ h => h) (by kernel_rfl) (by assumption) ?_ ?_
    · intro w hSw
      (try dsimp only at hSw)
      go_simp
    simp only [Act.put, List.setIfInBounds_toArray, List.set_cons_zero, List.set_cons_succ]
    refine handRead 3 (some 13) (.int .i64 x) rfl rfl (by kernel_rfl) (by kernel_rfl) (by kernel_rfl) (fun _ _ _ h => h) (by kernel_rfl) (by assumption) ?_ ?_
    · intro w hSw
      (try dsimp only at hSw)
      go_simp
    simp only [Act.put, List.setIfInBounds_toArray, List.set_cons_zero, List.set_cons_succ]
    refine handRead 4 (some 14) (.slice (some ⟨g, 0, none⟩) n cap) rfl rfl (by kernel_rfl) (by kernel_rfl) (by kernel_rfl) (fun _ _ _ h => h) (by kernel_rfl) (by assumption) ?_ ?_
    · intro w hSw
      (try dsimp only at hSw)
      go_simp
    simp only [Act.put, List.setIfInBounds_toArray, List.set_cons_zero, List.set_cons_succ]
    refine handRead 5 (some 15) (.int .i64 b) rfl rfl (by kernel_rfl) (by kernel_rfl) (by kernel_rfl) (fun _ _ _ h => h) (by kernel_rfl) (by assumption) ?_ ?_
    · intro w hSw
      (try dsimp only at hSw)
      go_simp
    simp only [Act.put, List.setIfInBounds_toArray, List.set_cons_zero, List.set_cons_succ]
    refine handRead 6 (some 16) (.pointer (some ⟨g, b, none⟩)) rfl rfl (by kernel_rfl) (by kernel_rfl) (by kernel_rfl) (fun _ _ _ h => h) (by kernel_rfl) (by assumption) ?_ ?_
    · intro w hSw
      (try dsimp only at hSw)
      go_simp
    simp only [Act.put, List.setIfInBounds_toArray, List.set_cons_zero, List.set_cons_succ]
    refine handRead 7 (some 17) (.int .i64 y) rfl rfl (by kernel_rfl) (by kernel_rfl) (by kernel_rfl) (fun _ _ _ h => h) (by kernel_rfl) (by assumption) ?_ ?_
    · intro w hSw
      (try dsimp only at hSw)
      go_simp
    simp only [Act.put, List.setIfInBounds_toArray, List.set_cons_zero, List.set_cons_succ]
    refine handRead 8 (some 18) (.int .i64 y) rfl rfl (by kernel_rfl) (by kernel_rfl) (by kernel_rfl) (fun _ _ _ h => h) (by kernel_rfl) (by assumption) ?_ ?_
    · intro w hSw
      (try dsimp only at hSw)
      go_simp
      all_goals (intros; omega)
    simp only [Act.put, List.setIfInBounds_toArray, List.set_cons_zero, List.set_cons_succ]
    refine handRead 9 (some 19) (.slice (some ⟨g, 0, none⟩) n cap) rfl rfl (by kernel_rfl) (by kernel_rfl) (by kernel_rfl) (fun _ _ _ h => h) (by kernel_rfl) (by assumption) ?_ ?_
    · intro w hSw
      (try dsimp only at hSw)
      go_simp
    simp only [Act.put, List.setIfInBounds_toArray, List.set_cons_zero, List.set_cons_succ]
    refine handRead 10 (some 20) (.int .i64 a) rfl rfl (by kernel_rfl) (by kernel_rfl) (by kernel_rfl) (fun _ _ _ h => h) (by kernel_rfl) (by assumption) ?_ ?_
    · intro w hSw
      (try dsimp only at hSw)
      go_simp
    simp only [Act.put, List.setIfInBounds_toArray, List.set_cons_zero, List.set_cons_succ]
    refine handRead 11 (some 21) (.pointer (some ⟨g, a, none⟩)) rfl rfl (by kernel_rfl) (by kernel_rfl) (by kernel_rfl) (fun _ _ _ h => h) (by kernel_rfl) (by assumption) ?_ ?_
    · intro w hSw
      (try dsimp only at hSw)
      go_simp
    simp only [Act.put, List.setIfInBounds_toArray, List.set_cons_zero, List.set_cons_succ]
    refine handRead 12 (some 22) (.int .i64 x) rfl rfl (by kernel_rfl) (by kernel_rfl) (by kernel_rfl) (fun _ _ _ h => h) (by kernel_rfl) (by assumption) ?_ ?_
    · intro w hSw
      (try dsimp only at hSw)
      go_simp
    simp only [Act.put, List.setIfInBounds_toArray, List.set_cons_zero, List.set_cons_succ]
    refine handRead 13 (some 23) (.slice (some ⟨g, 0, none⟩) n cap) rfl rfl (by kernel_rfl) (by kernel_rfl) (by kernel_rfl) (fun _ _ _ h => h) (by kernel_rfl) (by assumption) ?_ ?_
    · intro w hSw
      (try dsimp only at hSw)
      go_simp
    simp only [Act.put, List.setIfInBounds_toArray, List.set_cons_zero, List.set_cons_succ]
    refine handRead 14 (some 24) (.int .i64 b) rfl rfl (by kernel_rfl) (by kernel_rfl) (by kernel_rfl) (fun _ _ _ h => h) (by kernel_rfl) (by assumption) ?_ ?_
    · intro w hSw
      (try dsimp only at hSw)
      go_simp
    simp only [Act.put, List.setIfInBounds_toArray, List.set_cons_zero, List.set_cons_succ]
    refine handRead 15 (some 25) (.pointer (some ⟨g, b, none⟩)) rfl rfl (by kernel_rfl) (by kernel_rfl) (by kernel_rfl) (fun _ _ _ h => h) (by kernel_rfl) (by assumption) ?_ ?_
    · intro w hSw
      (try dsimp only at hSw)
      go_simp
    simp only [Act.put, List.setIfInBounds_toArray, List.set_cons_zero, List.set_cons_succ]
    refine handRead 16 (some 26) (.int .i64 y) rfl rfl (by kernel_rfl) (by kernel_rfl) (by kernel_rfl) (fun _ _ _ h => h) (by kernel_rfl) (by assumption) ?_ ?_
    · intro w hSw
      (try dsimp only at hSw)
      go_simp
    simp only [Act.put, List.setIfInBounds_toArray, List.set_cons_zero, List.set_cons_succ]
    refine handRead 17 (some 27) (.int .i64 x) rfl rfl (by kernel_rfl) (by kernel_rfl) (by kernel_rfl) (fun _ _ _ h => h) (by kernel_rfl) (by assumption) ?_ ?_
    · intro w hSw
      (try dsimp only at hSw)
      go_simp
      all_goals (intros; omega)
    simp only [Act.put, List.setIfInBounds_toArray, List.set_cons_zero, List.set_cons_succ]
    refine handRead 18 (some 6) (.int .i64 y) rfl rfl (by kernel_rfl) (by kernel_rfl) (by kernel_rfl) (fun _ _ _ h => h) (by kernel_rfl) (by assumption) ?_ ?_
    · intro w hSw
      (try dsimp only at hSw)
      go_simp
    simp only [Act.put, List.setIfInBounds_toArray, List.set_cons_zero, List.set_cons_succ]
    refine handRead 19 (some 7) (.int .i64 x) rfl rfl (by kernel_rfl) (by kernel_rfl) (by kernel_rfl) (fun _ _ _ h => h) (by kernel_rfl) (by assumption) ?_ ?_
    · intro w hSw
      (try dsimp only at hSw)
      go_simp
    simp only [Act.put, List.setIfInBounds_toArray, List.set_cons_zero, List.set_cons_succ]
    refine wpAnyH_done (by kernel_rfl) ?_ _
    go_wp2
    go_loopw [30] (fun i wr => ∃ k : Nat, k ≤ zs.length ∧ i = .int .i64 k ∧ Hid (Own wr B (.slice (some ⟨g, 0, none⟩) n cap) (relTo zs y x k) ∧ Turned (fun j => j = g) W wr)) (fun i _ => n - (intOf i).toNat)
    case atStart => exact ⟨0, Nat.zero_le _, rfl, HZ0.out⟩
    case round =>
      clear HZ0
      obtain ⟨k, hk, rfl, HK⟩ := hrel
      by_cases hlt : k < zs.length
      · have hlt' : (k : Int) < (n : Int) := by omega
        have HO := HK.out.1
        have hkn : k < n := by omega
        have c0 : wr.cell? ⟨g, k, none⟩ = some (.int .i64 zs[k]) := by
          have hk2 : k < (relTo zs y x k).length := by rw [relTo_len]; exact hlt
          have e : n = (relTo zs y x k).length := by rw [relTo_len]; exact HN.out.symm
          rw [e] at HO
          rw [own_cell HO k hk2]
          have := relTo_get zs y x k hlt
          rw [List.getElem?_eq_getElem hk2] at this
          rw [Option.some.inj this]
        have hf0 : wr.frozen? ⟨g, k, none⟩ = false := by
          have e : n = (relTo zs y x k).length := by rw [relTo_len]; exact HN.out.symm
          rw [e] at HO
          exact World.ownsRow.frozenAt HO k
        have HSM : Hid (¬ zs[k] = x → relTo zs y x (k + 1) = relTo zs y x k) := relTo_same zs y x k hlt
        have HNX : Hid (zs[k] = x → relTo zs y x (k + 1) = (relTo zs y x k).set k y) := fun e => by rw [relTo_next zs y x k hlt, if_pos e]
        have HOW : Hid (∀ u : Int, Own (wr.setCell ⟨g, k, none⟩ (.int .i64 u)) B (.slice (some ⟨g, 0, none⟩) n cap) ((relTo zs y x k).set k u)) := fun u => by
          have e : n = (relTo zs y x k).length := by rw [relTo_len]; exact HN.out.symm
          rw [e] at HO ⊢
          exact HO.set k u
        clear HO
        generalize zs[k] = z at *
        by_cases hz : z = x
        · have d1 : (z == x) = true := beq_iff_eq.2 hz
          have HF : Hid (Own (wr.setCell ⟨g, k, none⟩ (.int .i64 y)) B (.slice (some ⟨g, 0, none⟩) n cap) (relTo zs y x (k + 1)) ∧ Turned (fun j => j = g) W (wr.setCell ⟨g, k, none⟩ (.int .i64 y))) := ⟨by rw [HNX.out hz]; exact HOW.out y, HK.out.2.setT (.inl rfl) _⟩
          clear HK HSM HNX HOW hz
          go_wp2
          go_roundw
          case rel => exact ⟨k + 1, by omega, by go_num, HF.out⟩
          case measure => simp [intOf]; omega
        · have d1 : (z == x) = false := beq_eq_false_iff_ne.2 hz
          have HF : Hid (Own wr B (.slice (some ⟨g, 0, none⟩) n cap) (relTo zs y x (k + 1)) ∧ Turned (fun j => j = g) W wr) := ⟨by rw [HSM.out hz]; exact HK.out.1, HK.out.2⟩
          clear HK HSM HNX HOW hz hf0
          go_wp2
          go_roundw
          case rel => exact ⟨k + 1, by omega, by go_num, HF.out⟩
          case measure => simp [intOf]; omega
      · have hlt' : ¬ (k : Int) < (n : Int) := by omega
        have HF : Hid (Own wr B (.slice (some ⟨g, 0, none⟩) n cap) (relab zs y x) ∧ Turned (fun j => j = g) W wr) := ⟨by
          have := HK.out.1
          rw [show k = zs.length by omega, relTo_all] at this
          exact this, HK.out.2⟩
        clear HK
        go_wp2
        exact bodyPost_end (v := .tuple #[]) (by simp [results, Try.results59]) rfl ⟨⟨_, rfl⟩, HF.out⟩

set_option maxHeartbeats 2000000 in
theorem joinGroupsT_any (W : World) (B g cap n : Nat) (zs : List Int) (a b : Int) (h : Own W B (.slice (some ⟨g, 0, none⟩) n cap) zs) (hB : B ≤ W.heap.size) (hgB : B ≤ g) (hn : zs.length = n) (ha : 0 ≤ a ∧ a < n) (hb : 0 ≤ b ∧ b < n) (hn12 : n ≤ 12) :
    Calls Try.prog 59 #[.slice (some ⟨g, 0, none⟩) n cap, .int .i64 a, .int .i64 b] W fun e W' => (∃ v, e = .returned v) ∧ Own W' B (.slice (some ⟨g, 0, none⟩) n cap) (joinG zs a b) ∧ Turned (fun j => j = g) W W' := by
  subst hn
  obtain ⟨p, rfl⟩ : ∃ p : Nat, a = (p : Int) := ⟨a.toNat, by omega⟩
  obtain ⟨q, rfl⟩ : ∃ q : Nat, b = (q : Int) := ⟨b.toNat, by omega⟩
  have hp : p < zs.length := by omega
  have hq : q < zs.length := by omega
  unfold joinG
  rw [lab_get zs p hp, lab_get zs q hq]
  exact relabel_walkT W B g cap zs.length zs p q zs[p] zs[q] h hB hgB rfl hp hq (List.getElem?_eq_getElem hp) (List.getElem?_eq_getElem hq) hn12
end Go.Proofs.Ythlbmkefjjckaag
