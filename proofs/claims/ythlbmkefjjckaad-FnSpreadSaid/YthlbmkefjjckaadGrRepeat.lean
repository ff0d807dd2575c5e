/-
  'slices.Repeat' of one number; 'farsFrom'.
-/
import Derived.Test.YthlbmkefjjckaadGrRelax
import Derived.Laws.CopyOwn
namespace Go.Proofs.Ythlbmkefjjckaad
open Go.RowKit
set_option linter.unusedVariables false
attribute [local go_sem] Oper.semAt_some wide_fn

set_option maxRecDepth 100000 in
set_option maxHeartbeats 4000000 in
theorem mul64_any (W : World) (n : Nat) (h : 1 ≤ n ∧ n ≤ 12) : Calls Try.prog 109 #[.int .u64 1, .int .u64 (n : Int)] W fun e W' => e = .returned (.tuple #[.int .u64 0, .int .u64 (n : Int)]) ∧ W' = W := by
  have hc : n = 1 ∨ n = 2 ∨ n = 3 ∨ n = 4 ∨ n = 5 ∨ n = 6 ∨ n = 7 ∨ n = 8 ∨ n = 9 ∨ n = 10 ∨ n = 11 ∨ n = 12 := by omega
  clear h
  rcases hc with rfl | rfl | rfl | rfl | rfl | rfl | rfl | rfl | rfl | rfl | rfl | rfl
  all_goals
    go_enter Try.func109, Try.ntmps109
    go_wp2
    refine bodyPost_ret (results_tmp2 rfl _ _ _) rfl ?_
    exact ⟨rfl, rfl⟩

set_option maxHeartbeats 4000000 in
theorem mul_any (W : World) (n : Nat) (h : 1 ≤ n ∧ n ≤ 12) : Calls Try.prog 100 #[.int .u64 1, .int .u64 (n : Int)] W fun e W' => e = .returned (.tuple #[.int .u64 0, .int .u64 (n : Int)]) ∧ W' = W := by
  have HM : Hid (Calls Try.prog 109 #[.int .u64 1, .int .u64 (n : Int)] W fun e W' => e = .returned (.tuple #[.int .u64 0, .int .u64 (n : Int)]) ∧ W' = W) := mul64_any W n h
  have hn0 : 0 ≤ (n : Int) := by omega
  have hn1 : (n : Int) ≤ 12 := by omega
  go_enter Try.func100, Try.ntmps100
  go_wp2_with (go_at_call 109; refine HM.out.mono ?_; rintro e w1 ⟨rfl, rfl⟩)
  refine bodyPost_ret (results_tmp2 rfl _ _ _) rfl ?_
  exact ⟨rfl, rfl⟩

/-- So many are filled. -/
def fillV (z : Int) (m n : Nat) : List Value := List.replicate m (.int .i64 z) ++ List.replicate (n - m) (.int .i64 0)
theorem fillV_len (z : Int) (m n : Nat) (h : m ≤ n) : (fillV z m n).length = n := by simp [fillV]; omega
theorem fillV_zero (z : Int) (n : Nat) : fillV z 0 n = List.replicate n (.int .i64 0) := by simp [fillV]
theorem fillV_all (z : Int) (n : Nat) : fillV z n n = List.replicate n (.int .i64 z) := by simp [fillV]
theorem fillV_get (z : Int) (m n j : Nat) (h : j < m) : (fillV z m n)[j]? = some (.int .i64 z) := by
  unfold fillV
  rw [List.getElem?_append_left (by simpa using h)]
  simp [h]
def newV (z : Int) (j : Nat) : List Value := List.replicate j (.int .i64 z)
theorem newV_len (z : Int) (j : Nat) : (newV z j).length = j := by simp [newV]
theorem splice_fillV (z : Int) (m j n : Nat) (h : m + j ≤ n) : splice (fillV z m n) m (newV z j) = fillV z (m + j) n := by
  unfold splice fillV newV
  have e1 : (List.replicate m (Value.int .i64 z) ++ List.replicate (n - m) (Value.int .i64 0)).take m = List.replicate m (Value.int .i64 z) := by
    rw [List.take_append_of_le_length (by simp)]
    simp
  have e2 : (List.replicate m (Value.int .i64 z) ++ List.replicate (n - m) (Value.int .i64 0)).drop (m + (List.replicate j (Value.int .i64 z)).length) = List.replicate (n - (m + j)) (Value.int .i64 0) := by
    rw [List.length_replicate, ← List.drop_drop, List.drop_left' (by simp)]
    simp
    omega
  rw [e1, e2, ← List.append_assoc, List.replicate_append_replicate]

set_option maxRecDepth 100000 in
set_option maxHeartbeats 4000000 in
theorem repeat_any (W : World) (gx c : Nat) (z : Int) (n : Nat) (hn : 1 ≤ n ∧ n ≤ 12) (hx : W.cell? ⟨gx, 0, none⟩ = some (.int .i64 z)) :
    Calls Try.prog 79 #[.slice (some ⟨gx, 0, none⟩) 1 c, .int .i64 (n : Int)] W fun e W' => ∃ v', e = .returned v' ∧ Own W' W.heap.size v' (List.replicate n z) ∧ Below W.heap.size W W' := by
  have HM : Hid (Calls Try.prog 100 #[.int .u64 1, .int .u64 (n : Int)] W fun e W' => e = .returned (.tuple #[.int .u64 0, .int .u64 (n : Int)]) ∧ W' = W) := mul_any W n hn
  obtain ⟨W1, hmake, ho1, hb1, hlt1⟩ := make_ints n (by omega) W
  obtain ⟨H, hH⟩ : ∃ H, H = W.heap.size := ⟨_, rfl⟩
  rw [← hH] at hmake ho1 hb1 hlt1 ⊢
  have HHW : Hid (H = W.heap.size) := hH
  have HG1 : Hid (W1.heap[H]? = some (.cells (fillV z 0 n).toArray 3 (0, 0))) := by
    have h1 := ho1.1
    rcases ho1.2 with ⟨hv, -⟩ | ⟨g, cap, cur, hv, -, hg, -, -, hs, ht⟩
    · cases hv
    · rw [List.length_replicate] at hv ht
      simp only [Value.slice.injEq, Option.some.injEq, Addr.mk.injEq] at hv
      obtain ⟨⟨rfl, -⟩, -, rfl⟩ := hv
      show _ = _
      rw [hg, fillV_zero]
      have e1 : cur.toList = List.replicate n (.int .i64 0) := by
        rw [List.take_of_length_le (by simp at hs ⊢; omega)] at ht
        simpa using ht
      rw [← e1, Array.toArray_toList]
  have HB1 : Hid (Since H W W1) := ⟨hb1, by omega⟩
  have HX : Hid (W1.cell? ⟨gx, 0, none⟩ = some (.int .i64 z)) := (hb1.cell (p := ⟨gx, 0, none⟩) (by rw [hH]; exact World.block_lt_of_cell? W ⟨gx, 0, none⟩ hx)).trans hx
  clear ho1 hb1 hx hH
  have hn0 : 0 ≤ (n : Int) := by omega
  have hn1 : (n : Int) ≤ 12 := by omega
  have hn2 : 1 ≤ n := by omega
  have hn3 : n ≤ 12 := by omega
  clear hn
  have hsz1 : (Try.prog.info? 3).map (·.size) = some 1 := by kernel_rfl
  -- a copy of j of them behind m
  have HCOPY : Hid (∀ (w : World) (gs os m j dl dc sl sc : Nat), w.heap[H]? = some (.cells (fillV z m n).toArray 3 (0, 0)) → (∀ i, i < j → w.cell? ⟨gs, os + i, none⟩ = some (.int .i64 z)) → j = Nat.min sl dl → m + j ≤ n → ∀ ty,
      (Builtin.copy_ #[26, 26] ty #[.slice (some ⟨H, m, none⟩) dl dc, .slice (some ⟨gs, os, none⟩) sl sc]).run Try.prog w = .ok (.int .i64 (j : Int)) (w.setRow H (fillV z (m + j) n).toArray)) := fun w gs os m j dl dc sl sc hg hc hj hm ty => by
    have := run_copy_row (P := Try.prog) w 26 26 ty 3 H m dl dc ⟨gs, os, none⟩ sl sc (fillV z m n).toArray 3 (newV z j) Try.underlying26 hsz1 hg (by rw [newV_len]; exact hj) (fun i v hv => by
      unfold newV at hv
      rw [List.getElem?_replicate] at hv
      split at hv
      · next hlt =>
        cases hv
        have hadd : (⟨gs, os, none⟩ : Addr).add i = ⟨gs, os + i, none⟩ := by unfold Addr.add; split <;> simp_all
        rw [hadd]
        exact hc i hlt
      · cases hv) (by rw [newV_len, List.size_toArray, fillV_len z m n (by omega)]; exact hm) (fun v hv => by rw [List.eq_of_mem_replicate hv]; rfl)
    rw [newV_len] at this
    have e := splice_fillV z m j n hm
    unfold splice at e
    rw [newV_len] at e
    rw [List.append_assoc] at this
    rw [e] at this
    exact this
  have HROW : Hid (∀ (w : World) (m m' : Nat), w.heap[H]? = some (.cells (fillV z m n).toArray 3 (0, 0)) → Since H W w → (w.setRow H (fillV z m' n).toArray).heap[H]? = some (.cells (fillV z m' n).toArray 3 (0, 0)) ∧ Since H W (w.setRow H (fillV z m' n).toArray)) := fun w m m' hg hs =>
    ⟨setRow_heap w H _ _ 3 _ hg, below_setRow hs.1 (Nat.le_refl _) _, by have := hs.2; simpa [World.setRow] using this⟩
  have hc1 := HCOPY.out W1 gx 0 0 1 n n 1 c HG1.out (fun i hi => by
    have e : i = 0 := by omega
    subst e
    exact HX.out) (by simp [Nat.min_def]; omega) (by omega)
  have H2 := HROW.out W1 0 1 HG1.out HB1.out
  obtain ⟨W2, hW2⟩ : ∃ W2, W2 = W1.setRow H (fillV z (0 + 1) n).toArray := ⟨_, rfl⟩
  rw [← hW2] at hc1
  rw [show (fillV z 1 n) = fillV z (0 + 1) n from rfl, ← hW2] at H2
  have HI0 : Hid (W2.heap[H]? = some (.cells (fillV z (0 + 1) n).toArray 3 (0, 0)) ∧ Since H W W2) := H2
  have hc2 : ∀ ty, (Builtin.copy_ #[26, 26] ty #[.slice (some ⟨H, 0, none⟩) n n, .slice (some ⟨gx, 0, none⟩) 1 c]).run Try.prog W1 = .ok (.int .i64 1) W2 := fun ty => hc1 ty
  clear hc1 H2 hW2 HX HG1 HB1
  refine callsIn_wide (n := 9) |>.1 ?_
  refine callsIn_of_wp Try.func79 rfl trivial ?_ rfl
  simp only [Try.ntmps79, List.size_toArray, List.length_cons, List.length_nil, Nat.reduceAdd, Nat.reduceSub, Array.replicate_succ, Array.replicate_zero, List.push_toArray, List.append_toArray, List.nil_append, List.cons_append]
  gi_wp2_with (gi_at_call 100; refine (callsIn_wide.2 HM.out).mono ?_; rintro e w1 ⟨rfl, hw⟩; rw [hw]; clear hw)
  gi_loopw [8] (fun i wr => ∃ m : Nat, (1 ≤ m ∧ m ≤ n) ∧ i = .int .i64 m ∧ Hid (wr.heap[H]? = some (.cells (fillV z m n).toArray 3 (0, 0)) ∧ Since H W wr)) (fun i _ => n - (intOf i).toNat)
  case atStart => exact ⟨1, ⟨Nat.le_refl _, hn2⟩, rfl, HI0.out⟩
  case round =>
    obtain ⟨m, ⟨hm1, hmn⟩, rfl, HI⟩ := hrel
    by_cases hlt : m < n
    · have hlt' : (m : Int) < (n : Int) := by omega
      obtain ⟨j, hj⟩ : ∃ j, j = Nat.min m (n - m) := ⟨_, rfl⟩
      have hjm : m + j ≤ n ∧ 1 ≤ j := by simp [Nat.min_def] at hj; split at hj <;> omega
      have hcp := HCOPY.out wr.drew H 0 m j (n - m) (n - m) m n HI.out.1 (fun i hi => by
        rw [Nat.zero_add]
        have := fillV_get z m n i (by simp [Nat.min_def] at hj; split at hj <;> omega)
        have hg' : wr.drew.heap[H]? = some (.cells (fillV z m n).toArray 3 (0, 0)) := HI.out.1
        simpa [World.cell?, hg'] using this) hj hjm.1
      have H2 := HROW.out wr.drew m (m + j) HI.out.1 (show Since H W wr.drew from ⟨HI.out.2.1.drew, HI.out.2.2⟩)
      have HN : Hid (wr.drew.setRow H (fillV z (m + j) n).toArray = wr.drew.setRow H (fillV z (m + j) n).toArray ∧ ((wr.drew.setRow H (fillV z (m + j) n).toArray).heap[H]? = some (.cells (fillV z (m + j) n).toArray 3 (0, 0)) ∧ Since H W (wr.drew.setRow H (fillV z (m + j) n).toArray))) := ⟨rfl, H2⟩
      clear H2 HI HCOPY HROW HI0 hj
      have hsum : (m : Int) + (j : Int) ≤ 12 := by omega
      have hwr : IntKind.i64.wrap ((m : Int) + (j : Int)) = (m : Int) + (j : Int) := by rw [IntKind.wrap_i64]; omega
      gi_wp2
      refine region_outRound (S := (fun _ : World => True)) 9 (by kernel_rfl) ?_ (fun hHeld => ?_)
      · trivial
      refine roundRead 0 (some 38) (.int .i64 (m : Int)) rfl rfl (by kernel_rfl) (by kernel_rfl) (by kernel_rfl) (by kernel_rfl) (fun _ _ _ h => h) (by kernel_rfl) (by assumption) ?_ ?_
      · intro w hSw
        (try dsimp only at hSw)
        go_simp
      simp only [Act.put, List.setIfInBounds_toArray, List.set_cons_zero, List.set_cons_succ]
      refine roundRead 1 (some 39) (.slice (some ⟨H, 0, none⟩) n n) rfl rfl (by kernel_rfl) (by kernel_rfl) (by kernel_rfl) (by kernel_rfl) (fun _ _ _ h => h) (by kernel_rfl) (by assumption) ?_ ?_
      · intro w hSw
        (try dsimp only at hSw)
        go_simp
      simp only [Act.put, List.setIfInBounds_toArray, List.set_cons_zero, List.set_cons_succ]
      refine roundRead 2 (some 40) (.int .i64 (m : Int)) rfl rfl (by kernel_rfl) (by kernel_rfl) (by kernel_rfl) (by kernel_rfl) (fun _ _ _ h => h) (by kernel_rfl) (by assumption) ?_ ?_
      · intro w hSw
        (try dsimp only at hSw)
        go_simp
      simp only [Act.put, List.setIfInBounds_toArray, List.set_cons_zero, List.set_cons_succ]
      refine roundRead 3 (some 41) (.slice (some ⟨H, m, none⟩) (n - m) (n - m)) rfl rfl (by kernel_rfl) (by kernel_rfl) (by kernel_rfl) (by kernel_rfl) (fun _ _ _ h => h) (by kernel_rfl) (by assumption) ?_ ?_
      · intro w hSw
        (try dsimp only at hSw)
        go_simp
        all_goals omega
      simp only [Act.put, List.setIfInBounds_toArray, List.set_cons_zero, List.set_cons_succ]
      refine roundRead 4 (some 42) (.slice (some ⟨H, 0, none⟩) n n) rfl rfl (by kernel_rfl) (by kernel_rfl) (by kernel_rfl) (by kernel_rfl) (fun _ _ _ h => h) (by kernel_rfl) (by assumption) ?_ ?_
      · intro w hSw
        (try dsimp only at hSw)
        go_simp
      simp only [Act.put, List.setIfInBounds_toArray, List.set_cons_zero, List.set_cons_succ]
      refine roundRead 5 (some 43) (.int .i64 (m : Int)) rfl rfl (by kernel_rfl) (by kernel_rfl) (by kernel_rfl) (by kernel_rfl) (fun _ _ _ h => h) (by kernel_rfl) (by assumption) ?_ ?_
      · intro w hSw
        (try dsimp only at hSw)
        go_simp
      simp only [Act.put, List.setIfInBounds_toArray, List.set_cons_zero, List.set_cons_succ]
      refine roundRead 6 (some 44) (.slice (some ⟨H, 0, none⟩) m n) rfl rfl (by kernel_rfl) (by kernel_rfl) (by kernel_rfl) (by kernel_rfl) (fun _ _ _ h => h) (by kernel_rfl) (by assumption) ?_ ?_
      · intro w hSw
        (try dsimp only at hSw)
        go_simp
        all_goals omega
      simp only [Act.put, List.setIfInBounds_toArray, List.set_cons_zero, List.set_cons_succ]
      refine roundValue 7 (some 45) (.int .i64 (j : Int)) (wr.drew.setRow H (fillV z (m + j) n).toArray) (by kernel_rfl) rfl rfl (.inr fun _ => trivial) (by kernel_rfl) (by (first | go_simp | (simp [go_sem, hcp]))) ?_
      simp only [Act.put, List.setIfInBounds_toArray, List.set_cons_zero, List.set_cons_succ]
      refine roundValue 8 (some 46) (.int .i64 ((m + j : Nat) : Int)) (wr.drew.setRow H (fillV z (m + j) n).toArray) (by kernel_rfl) rfl rfl (.inr fun _ => trivial) (by kernel_rfl) (by go_simp) ?_
      simp only [Act.put, List.setIfInBounds_toArray, List.set_cons_zero, List.set_cons_succ]
      refine roundValue 9 (some 8) (.int .i64 ((m + j : Nat) : Int)) (wr.drew.setRow H (fillV z (m + j) n).toArray) (by kernel_rfl) rfl rfl (.inr fun _ => trivial) (by kernel_rfl) (by go_simp) ?_
      simp only [Act.put, List.setIfInBounds_toArray, List.set_cons_zero, List.set_cons_succ]
      refine wpAnyR.done (by kernel_rfl) ?_ _
      have HF : Hid (((wr.drew.setRow H (fillV z (m + j) n).toArray).heap[H]? = some (.cells (fillV z (m + j) n).toArray 3 (0, 0)) ∧ Since H W (wr.drew.setRow H (fillV z (m + j) n).toArray))) := HN.out.2
      clear HN
      gi_wp2
      go_roundw
      case rel => exact ⟨m + j, ⟨by omega, by omega⟩, rfl, HF.out⟩
      case measure => simp [intOf]; omega
    · have e : m = n := by omega
      subst e
      have HE : Hid (Own wr H (.slice (some ⟨H, 0, none⟩) m m) (List.replicate m z) ∧ Below H W wr) := by
        refine ⟨⟨by simp, .inr ⟨H, m, _, by simp, Nat.le_refl _, HI.out.1, ?_, ?_, ?_, ?_⟩⟩, HI.out.2.1⟩
        · simp
        · unfold maxLen; omega
        · rw [List.size_toArray, fillV_len z m m (Nat.le_refl _)]; omega
        · rw [fillV_all]; simp
      clear HI HCOPY HROW
      gi_wp2
      refine bodyPost_ret (results_tmp rfl _ _ _) rfl ?_
      exact ⟨_, rfl, HE.out⟩

set_option maxRecDepth 100000 in
set_option maxHeartbeats 4000000 in
theorem farsFrom_any (W : World) (v : Value) (l : List EdD) (n : Nat) (a : Int) (h : ReadsEd W v l) (hf : FitEd n l) (hn : 1 ≤ n ∧ n ≤ 12) (hl : l.length ≤ 40) (ha : 0 ≤ a ∧ a < n) :
    Calls Try.prog 49 #[.int .i64 (n : Int), v, .int .i64 a] W fun e W' => ∃ v', e = .returned v' ∧ Own W' W.heap.size v' (fars n l a) ∧ Below W.heap.size W W' := by
  have HR : Hid (∀ w, Since W.heap.size W w → ReadsEd w v l) := fun w hs => h.below hs.1
  obtain ⟨a1, c1, rfl⟩ := h.shape
  have CR : Hid (∀ (w : World) (gx c : Nat), w.cell? ⟨gx, 0, none⟩ = some (.int .i64 100000) → Calls Try.prog 79 #[.slice (some ⟨gx, 0, none⟩) 1 c, .int .i64 (n : Int)] w fun e w' => ∃ v', e = .returned v' ∧ Own w' w.heap.size v' (List.replicate n 100000) ∧ Below w.heap.size w w') := fun w gx c hx => repeat_any w gx c 100000 n hn hx
  have CX : Hid (∀ (w : World) (u : Value) (j : Nat), Since W.heap.size W w → Own w W.heap.size u (farD n l a j) → Calls Try.prog 80 #[.slice a1 l.length c1, u] w fun e w' => ∃ v', e = .returned v' ∧ Own w' w.heap.size v' (farD n l a (j + 1)) ∧ Below w.heap.size w w') := fun w u j hs ho =>
    relaxOnce_any w _ u l (farD n l a j) _ (HR.out w hs) ho (by rw [farD_len]; exact hf) (by rw [farD_len]; exact hn) hl (fun i h0 hi => by
      rw [farD_len] at hi
      exact ⟨farD_nonneg hf ha j i h0 hi, farD_far ha j i h0 hi⟩)
  obtain ⟨k, rfl⟩ : ∃ k : Nat, a = (k : Int) := ⟨a.toNat, by omega⟩
  have hk : k < n := by omega
  have hk' : (k : Int) < (n : Int) := by omega
  have HN : Hid (1 ≤ n ∧ n ≤ 12) := hn
  clear h hf hn ha
  go_enter Try.func49, Try.ntmps49
  go_wp2_with fail
  refine (CR.out _ W.heap.size 1 (new_cell _ _ _)).mono ?_
  rintro e w1 ⟨v1, rfl, ho1, hb1⟩
  rw [World.size_alloc] at ho1 hb1
  obtain ⟨g, cap, rfl, HG⟩ : ∃ g cap, v1 = .slice (some ⟨g, 0, none⟩) n cap ∧ Hid (W.heap.size < g ∧ Own w1 (W.heap.size + 1) (.slice (some ⟨g, 0, none⟩) n cap) (List.replicate n 100000) ∧ Since W.heap.size W w1) := by
    have ho := ho1
    rcases ho1.2 with ⟨-, h0⟩ | ⟨g, cap, cur, rfl, hB, hg, -⟩
    · rw [List.length_replicate] at h0
      have := HN.out
      omega
    · rw [List.length_replicate] at ho ⊢
      exact ⟨g, cap, rfl, by omega, ho, ((Below.refl _ W).alloc (Nat.le_refl _) _).trans (hb1.mono (by omega)), by have := hb1.size; simp at this; omega⟩
  have hcg : w1.cell? ⟨g, k, none⟩ = some (.int .i64 100000) := by
    have := own_cellG HG.out.2.1 (by simp) k (by simpa using hk)
    simpa using this
  have hfg : w1.frozen? ⟨g, k, none⟩ = false := own_frozenG HG.out.2.1 (by simp) k
  have HI : Hid (Own (w1.setCell ⟨g, k, none⟩ (.int .i64 0)) W.heap.size (.slice (some ⟨g, 0, none⟩) n cap) (farD n l k 0) ∧ Since W.heap.size W (w1.setCell ⟨g, k, none⟩ (.int .i64 0))) := by
    refine ⟨?_, HG.out.2.2.1.setCell (by have := HG.out.1; show W.heap.size ≤ g; omega) _, by have := HG.out.2.2.2; simpa [World.setCell] using this⟩
    have hO := HG.out.2.1
    have e : n = (List.replicate n (100000 : Int)).length := by simp
    have hO2 : Own w1 (W.heap.size + 1) (.slice (some ⟨g, 0, none⟩) (List.replicate n (100000 : Int)).length cap) (List.replicate n 100000) := by rw [List.length_replicate]; exact hO
    have := (hO2.set k 0).mono (B' := W.heap.size) (by omega)
    rw [List.length_replicate] at this
    exact this
  have hn12 : n ≤ 12 := HN.out.2
  clear ho1 hb1 HG CR
  go_wp2
  go_loopw [7, 15] (fun u i wr => ∃ j : Nat, j ≤ n ∧ i = .int .i64 j ∧ Hid (Own wr W.heap.size u (farD n l k j) ∧ Since W.heap.size W wr)) (fun _ i _ => n - (intOf i).toNat)
  case atStart => exact ⟨0, Nat.zero_le _, rfl, HI.out⟩
  case round =>
    obtain ⟨j, hj, rfl, HK⟩ := hrel
    obtain ⟨a2, c2, rfl⟩ := HK.out.1.shape
    by_cases hlt : j < n
    · have hlt' : (j : Int) < (n : Int) := by omega
      go_wp2_with fail
      refine (CX.out _ _ j HK.out.2 HK.out.1).mono ?_
      rintro e wq ⟨vq, rfl, hoq, hbq⟩
      have HF : Hid (Own wq W.heap.size vq (farD n l k (j + 1)) ∧ Since W.heap.size W wq) := ⟨hoq.mono HK.out.2.2, HK.out.2.step hbq⟩
      obtain ⟨a3, c3, rfl⟩ := hoq.shape
      clear hoq hbq HK
      go_wp2
      go_roundw
      case rel => exact ⟨j + 1, by omega, by go_num, HF.out⟩
      case measure => simp [intOf]; omega
    · have e : j = n := by omega
      have HE : Hid (Own wr W.heap.size (.slice a2 (farD n l k j).length c2) (fars n l k) ∧ Since W.heap.size W wr) := by
        have := HK.out
        rw [show fars n l k = farD n l k j by rw [e]; rfl]
        exact this
      clear HK
      subst e
      go_wp2
      go_ret
      exact ⟨_, rfl, HE.out.1, HE.out.2.1⟩
end Go.Proofs.Ythlbmkefjjckaad
